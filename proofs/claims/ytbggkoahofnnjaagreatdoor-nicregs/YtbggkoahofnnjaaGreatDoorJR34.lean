/-
  The document's Write: what the driver asks for, and what it quiets.
-/
import Derived.Test.YtbggkoahofnnjaaGreatDoorJR9
open Go.Proofs.Tryz
set_option linter.unusedVariables false
set_option linter.unusedSimpArgs false
namespace Go.Proofs.YtbggkoahofnnjaaGreatDoor
open Go.RowKit
set_option maxRecDepth 20000
set_option maxHeartbeats 2000000
attribute [local go_sem] V.at0 V.at1 V.at2 V.at3 V.at4 V.at5 V.at6 V.at7 V.at8 V.at9 V.at10 V.at11 V.at12 V.at13 V.at14 V.at15 V.at16 V.at17 V.at18 V.at19 V.at20 Qu.at0 Qu.at1 Qu.at2 Qu.at3 Qu.at4 Qu.at5 Qu.at6
def StViRWrB0 (s : V) (a : Nat) (v : Nat) (w : World) : Prop := Calls prog 27 #[.agg s.cells, .int .u32 (a : Nat), .int .u32 (v : Nat)] w fun e w' => e = .returned (.tuple #[.agg (writeV s a v).1.cells, .int .i64 (writeV s a v).2.1, .int .i64 ((writeV s a v).2.2 : Nat)]) ∧ Below w.heap.size w w'
theorem rwr_32t_far (s : V) (ok : s.Ok) (a v : Nat) (hv : v < 4294967296) (hm : accV s a = 0) (h : a = 32) (h3 : s.st.testBit 3 = true) (hs : 2 ≤ s.se) (w : World) :
    StViRWrB0 s a v w := by
  unfold StViRWrB0
  have HV : writeV s a v = (s, -1, 0) := by unfold writeV; rw [if_pos hm]; unfold writeS; subst h; show (askV s v, (-1 : Int), 0) = _; unfold askV; rw [if_pos h3]
  rw [HV]; clear HV
  have HC := hide (fun w => rvcheck_any s ok w)
  rw [(accV_ok hm).1] at HC
  replace HC : Hid (∀ w, Calls prog 14 #[.agg s.cells] w fun e w' => e = .returned (.int .i64 0) ∧ Below w.heap.size w w') := HC
  have H3 := hide (fun w => rhas_3 s.st ok.st w)
  rw [h3] at H3
  subst h
  rw [show ((32 : Nat) : Int) = 32 from rfl]
  have lse : (s.se : Int) > 1 := by omega
  have lseb : (1 : Int) < (s.se : Int) := by omega
  clear hs
  go_enter func27, ntmps27
  go_wp2_with (first | ((with_reducible refine bx_vr w.heap.size s ?_ ?_ ?_); exact rfl; exact rfl; intro W hr hb hz; have fx := hr.cell) | ((with_reducible refine al_vr (w.heap.size + 1) ?_ ?_); exact hz.out; intro W hq hb' hz'; replace hr := hr.bl (hz.out ▸ hb'); replace hb := hb.trans (hb'.mono (by omega)); replace hz := hz'; replace fx := hr.cell) | (go_at_call 14; (with_reducible refine (HC.out _).mono ?_); rintro e W ⟨rfl, hbc⟩; replace hr := hr.bl hbc; replace hq := hq.bl hbc; replace fx := hr.cell; replace hb := below_bl rfl hb hbc) | (go_at_call 30; (with_reducible refine (H3.out _).mono ?_); rintro e W ⟨rfl, rfl⟩) | ((with_reducible refine ld_se w.heap.size _ _ hr ?_ ?_ ?_); exact rfl; exact rfl) | ((with_reducible refine ld_vr w.heap.size _ hr ?_ ?_ ?_); exact rfl; exact rfl) | ((with_reducible refine st_vr (w.heap.size + 1) _ s hq ?_ ?_ ?_); exact rfl; exact rfl; intro W hnew ho; replace hr := hr.only ho (by omega); replace hq := hnew; replace hb := ho.bel _ _ (by omega) hb))
  all_goals (refine bodyPost_ret (results_cell_two' results27 _ _ (w.heap.size + 1) _ _ _ rfl hq underlying31 rfl size_vr) rfl ?_; exact ⟨rfl, hb⟩)
theorem rwr_32n_far (s : V) (ok : s.Ok) (a v : Nat) (hv : v < 4294967296) (hm : accV s a = 0) (h : a = 32) (h3 : s.st.testBit 3 = false) (hd : 2 ≤ s.ds) (hs : 2 ≤ s.se) (w : World) :
    StViRWrB0 s a v w := by
  unfold StViRWrB0
  have HV : writeV s a v = (s, -1, 0) := by unfold writeV; rw [if_pos hm]; unfold writeS; subst h; show (askV s v, (-1 : Int), 0) = _; unfold askV; rw [h3, if_neg (by decide), if_neg (show ¬ s.ds = 0 by omega), if_neg (show ¬ s.ds = 1 by omega)]
  rw [HV]; clear HV
  have HC := hide (fun w => rvcheck_any s ok w)
  rw [(accV_ok hm).1] at HC
  replace HC : Hid (∀ w, Calls prog 14 #[.agg s.cells] w fun e w' => e = .returned (.int .i64 0) ∧ Below w.heap.size w w') := HC
  have H3 := hide (fun w => rhas_3 s.st ok.st w)
  rw [h3] at H3
  have ld1 : decide ((s.ds : Int) < 2) = false := by simp; omega
  have ld2 : decide (s.ds < 2) = false := by simp; omega
  clear hd
  subst h
  rw [show ((32 : Nat) : Int) = 32 from rfl]
  have lse : (s.se : Int) > 1 := by omega
  have lseb : (1 : Int) < (s.se : Int) := by omega
  clear hs
  go_enter func27, ntmps27
  go_wp2_with (first | ((with_reducible refine bx_vr w.heap.size s ?_ ?_ ?_); exact rfl; exact rfl; intro W hr hb hz; have fx := hr.cell) | ((with_reducible refine al_vr (w.heap.size + 1) ?_ ?_); exact hz.out; intro W hq hb' hz'; replace hr := hr.bl (hz.out ▸ hb'); replace hb := hb.trans (hb'.mono (by omega)); replace hz := hz'; replace fx := hr.cell) | (go_at_call 14; (with_reducible refine (HC.out _).mono ?_); rintro e W ⟨rfl, hbc⟩; replace hr := hr.bl hbc; replace hq := hq.bl hbc; replace fx := hr.cell; replace hb := below_bl rfl hb hbc) | (go_at_call 30; (with_reducible refine (H3.out _).mono ?_); rintro e W ⟨rfl, rfl⟩) | ((with_reducible refine ld_se w.heap.size _ _ hr ?_ ?_ ?_); exact rfl; exact rfl) | ((with_reducible refine ld_vr w.heap.size _ hr ?_ ?_ ?_); exact rfl; exact rfl) | ((with_reducible refine st_vr (w.heap.size + 1) _ s hq ?_ ?_ ?_); exact rfl; exact rfl; intro W hnew ho; replace hr := hr.only ho (by omega); replace hq := hnew; replace hb := ho.bel _ _ (by omega) hb))
  all_goals (refine bodyPost_ret (results_cell_two' results27 _ _ (w.heap.size + 1) _ _ _ rfl hq underlying31 rfl size_vr) rfl ?_; exact ⟨rfl, hb⟩)
theorem rwr_32d0_far (s : V) (ok : s.Ok) (a v : Nat) (hv : v < 4294967296) (hm : accV s a = 0) (h : a = 32) (h3 : s.st.testBit 3 = false) (hd : s.ds = 0) (hs : 2 ≤ (s.d0w v).se) (w : World) :
    StViRWrB0 s a v w := by
  unfold StViRWrB0
  have HV : writeV s a v = (s.d0w v, -1, 0) := by unfold writeV; rw [if_pos hm]; unfold writeS; subst h; show (askV s v, (-1 : Int), 0) = _; unfold askV; rw [h3, hd]; rfl
  rw [HV]; clear HV
  have HC := hide (fun w => rvcheck_any s ok w)
  rw [(accV_ok hm).1] at HC
  replace HC : Hid (∀ w, Calls prog 14 #[.agg s.cells] w fun e w' => e = .returned (.int .i64 0) ∧ Below w.heap.size w w') := HC
  have H3 := hide (fun w => rhas_3 s.st ok.st w)
  rw [h3] at H3
  have hdi : ((s.ds : Nat) : Int) = 0 := by omega
  clear hd
  obtain ⟨t, ht⟩ : ∃ t, s.d0w v = t := ⟨_, rfl⟩
  have hs2 : 2 ≤ t.se := by rw [← ht]; exact hs
  rw [ht]
  have HT := hide ht
  clear ht hs
  have hs := hs2
  clear hs2
  have lse : (t.se : Int) > 1 := by omega
  have lseb : (1 : Int) < (t.se : Int) := by omega
  clear hs
  subst h
  rw [show ((32 : Nat) : Int) = 32 from rfl]
  go_enter func27, ntmps27
  go_wp2_with (first | ((with_reducible refine bx_vr w.heap.size s ?_ ?_ ?_); exact rfl; exact rfl; intro W hr hb hz; have fx := hr.cell) | ((with_reducible refine al_vr (w.heap.size + 1) ?_ ?_); exact hz.out; intro W hq hb' hz'; replace hr := hr.bl (hz.out ▸ hb'); replace hb := hb.trans (hb'.mono (by omega)); replace hz := hz'; replace fx := hr.cell) | (go_at_call 14; (with_reducible refine (HC.out _).mono ?_); rintro e W ⟨rfl, hbc⟩; replace hr := hr.bl hbc; replace hq := hq.bl hbc; replace fx := hr.cell; replace hb := below_bl rfl hb hbc) | (go_at_call 30; (with_reducible refine (H3.out _).mono ?_); rintro e W ⟨rfl, rfl⟩) | ((with_reducible refine st_d0 w.heap.size _ v _ hr ?_ ?_ ?_); exact rfl; exact rfl; intro W hnew ho; replace hq := hq.only ho (by omega); replace hr := hnew; replace hb := ho.bel _ _ (by omega) hb; (try clear fx); rw [HT.out] at hr) | ((with_reducible refine ld_se w.heap.size _ _ hr ?_ ?_ ?_); exact rfl; exact rfl) | ((with_reducible refine ld_vr w.heap.size _ hr ?_ ?_ ?_); exact rfl; exact rfl) | ((with_reducible refine st_vr (w.heap.size + 1) _ t hq ?_ ?_ ?_); exact rfl; exact rfl; intro W hnew ho; replace hr := hr.only ho (by omega); replace hq := hnew; replace hb := ho.bel _ _ (by omega) hb))
  all_goals (refine bodyPost_ret (results_cell_two' results27 _ _ (w.heap.size + 1) _ _ _ rfl hq underlying31 rfl size_vr) rfl ?_; exact ⟨rfl, hb⟩)
theorem rwr_32d1_far (s : V) (ok : s.Ok) (a v : Nat) (hv : v < 4294967296) (hm : accV s a = 0) (h : a = 32) (h3 : s.st.testBit 3 = false) (hd : s.ds = 1) (hs : 2 ≤ (s.d1w v).se) (w : World) :
    StViRWrB0 s a v w := by
  unfold StViRWrB0
  have HV : writeV s a v = (s.d1w v, -1, 0) := by unfold writeV; rw [if_pos hm]; unfold writeS; subst h; show (askV s v, (-1 : Int), 0) = _; unfold askV; rw [h3, hd]; rfl
  rw [HV]; clear HV
  have HC := hide (fun w => rvcheck_any s ok w)
  rw [(accV_ok hm).1] at HC
  replace HC : Hid (∀ w, Calls prog 14 #[.agg s.cells] w fun e w' => e = .returned (.int .i64 0) ∧ Below w.heap.size w w') := HC
  have H3 := hide (fun w => rhas_3 s.st ok.st w)
  rw [h3] at H3
  have hdi : ((s.ds : Nat) : Int) = 1 := by omega
  clear hd
  obtain ⟨t, ht⟩ : ∃ t, s.d1w v = t := ⟨_, rfl⟩
  have hs2 : 2 ≤ t.se := by rw [← ht]; exact hs
  rw [ht]
  have HT := hide ht
  clear ht hs
  have hs := hs2
  clear hs2
  have lse : (t.se : Int) > 1 := by omega
  have lseb : (1 : Int) < (t.se : Int) := by omega
  clear hs
  subst h
  rw [show ((32 : Nat) : Int) = 32 from rfl]
  go_enter func27, ntmps27
  go_wp2_with (first | ((with_reducible refine bx_vr w.heap.size s ?_ ?_ ?_); exact rfl; exact rfl; intro W hr hb hz; have fx := hr.cell) | ((with_reducible refine al_vr (w.heap.size + 1) ?_ ?_); exact hz.out; intro W hq hb' hz'; replace hr := hr.bl (hz.out ▸ hb'); replace hb := hb.trans (hb'.mono (by omega)); replace hz := hz'; replace fx := hr.cell) | (go_at_call 14; (with_reducible refine (HC.out _).mono ?_); rintro e W ⟨rfl, hbc⟩; replace hr := hr.bl hbc; replace hq := hq.bl hbc; replace fx := hr.cell; replace hb := below_bl rfl hb hbc) | (go_at_call 30; (with_reducible refine (H3.out _).mono ?_); rintro e W ⟨rfl, rfl⟩) | ((with_reducible refine st_d1 w.heap.size _ v _ hr ?_ ?_ ?_); exact rfl; exact rfl; intro W hnew ho; replace hq := hq.only ho (by omega); replace hr := hnew; replace hb := ho.bel _ _ (by omega) hb; (try clear fx); rw [HT.out] at hr) | ((with_reducible refine ld_se w.heap.size _ _ hr ?_ ?_ ?_); exact rfl; exact rfl) | ((with_reducible refine ld_vr w.heap.size _ hr ?_ ?_ ?_); exact rfl; exact rfl) | ((with_reducible refine st_vr (w.heap.size + 1) _ t hq ?_ ?_ ?_); exact rfl; exact rfl; intro W hnew ho; replace hr := hr.only ho (by omega); replace hq := hnew; replace hb := ho.bel _ _ (by omega) hb))
  all_goals (refine bodyPost_ret (results_cell_two' results27 _ _ (w.heap.size + 1) _ _ _ rfl hq underlying31 rfl size_vr) rfl ?_; exact ⟨rfl, hb⟩)
theorem rwr_32t_0 (s : V) (ok : s.Ok) (a v : Nat) (hv : v < 4294967296) (hm : accV s a = 0) (h : a = 32) (h3 : s.st.testBit 3 = true) (hs : s.se = 0) (w : World) :
    StViRWrB0 s a v w := by
  unfold StViRWrB0
  have HV : writeV s a v = (s, -1, 0) := by unfold writeV; rw [if_pos hm]; unfold writeS; subst h; show (askV s v, (-1 : Int), 0) = _; unfold askV; rw [if_pos h3]
  rw [HV]; clear HV
  have HC := hide (fun w => rvcheck_any s ok w)
  rw [(accV_ok hm).1] at HC
  replace HC : Hid (∀ w, Calls prog 14 #[.agg s.cells] w fun e w' => e = .returned (.int .i64 0) ∧ Below w.heap.size w w') := HC
  have H3 := hide (fun w => rhas_3 s.st ok.st w)
  rw [h3] at H3
  subst h
  rw [show ((32 : Nat) : Int) = 32 from rfl]
  have hse : ((s.se : Nat) : Int) = 0 := by omega
  clear hs
  go_enter func27, ntmps27
  go_wp2_with (first | ((with_reducible refine bx_vr w.heap.size s ?_ ?_ ?_); exact rfl; exact rfl; intro W hr hb hz; have fx := hr.cell) | ((with_reducible refine al_vr (w.heap.size + 1) ?_ ?_); exact hz.out; intro W hq hb' hz'; replace hr := hr.bl (hz.out ▸ hb'); replace hb := hb.trans (hb'.mono (by omega)); replace hz := hz'; replace fx := hr.cell) | (go_at_call 14; (with_reducible refine (HC.out _).mono ?_); rintro e W ⟨rfl, hbc⟩; replace hr := hr.bl hbc; replace hq := hq.bl hbc; replace fx := hr.cell; replace hb := below_bl rfl hb hbc) | (go_at_call 30; (with_reducible refine (H3.out _).mono ?_); rintro e W ⟨rfl, rfl⟩) | ((with_reducible refine ld_se w.heap.size _ _ hr ?_ ?_ ?_); exact rfl; exact rfl) | ((with_reducible refine ld_q0r w.heap.size _ _ hr ?_ ?_ ?_); exact rfl; exact rfl) | (obtain ⟨NQ, hNQ⟩ : ∃ n, W.heap.size = n := ⟨_, rfl⟩; have lNQ : w.heap.size + 2 ≤ NQ := (by (have := hq.lt; omega)); (with_reducible refine al_qr NQ ?_ ?_); exact hNQ; intro W hu hb' hz'; replace hr := hr.bl (hNQ ▸ hb'); replace hq := hq.bl (hNQ ▸ hb'); replace hb := hb.trans (hb'.mono (by omega)); clear hNQ hb' hz'; (try clear fx)) | ((with_reducible refine st_qr NQ _ s.q0 hu ?_ ?_ ?_); exact rfl; exact rfl; intro W hnew ho; replace hr := hr.only ho (by omega); replace hq := hq.only ho (by omega); replace hu := hnew; replace hb := ho.bel _ _ (by omega) hb) | ((with_reducible refine ld_urd NQ _ _ hu ?_ ?_ ?_); exact rfl; exact rfl) | ((with_reducible refine ld_qr NQ _ hu ?_ ?_ ?_); exact rfl; exact rfl) | ((with_reducible refine st_q0r w.heap.size _ s.q0 _ hr ?_ ?_ ?_); exact rfl; exact rfl; intro W hnew ho; replace hq := hq.only ho (by omega); replace hu := hu.only ho (by omega); replace hr := hnew; replace hb := ho.bel _ _ (by omega) hb) | ((with_reducible refine ld_vr w.heap.size _ hr ?_ ?_ ?_); exact rfl; exact rfl) | ((with_reducible refine st_vr (w.heap.size + 1) _ s hq ?_ ?_ ?_); exact rfl; exact rfl; intro W hnew ho; replace hr := hr.only ho (by omega); replace hq := hnew; replace hb := ho.bel _ _ (by omega) hb))
  all_goals (refine bodyPost_ret (results_cell_two' results27 _ _ (w.heap.size + 1) _ _ _ rfl hq underlying31 rfl size_vr) rfl ?_; exact ⟨rfl, hb⟩)
theorem rwr_32n_0 (s : V) (ok : s.Ok) (a v : Nat) (hv : v < 4294967296) (hm : accV s a = 0) (h : a = 32) (h3 : s.st.testBit 3 = false) (hd : 2 ≤ s.ds) (hs : s.se = 0) (w : World) :
    StViRWrB0 s a v w := by
  unfold StViRWrB0
  have HV : writeV s a v = (s, -1, 0) := by unfold writeV; rw [if_pos hm]; unfold writeS; subst h; show (askV s v, (-1 : Int), 0) = _; unfold askV; rw [h3, if_neg (by decide), if_neg (show ¬ s.ds = 0 by omega), if_neg (show ¬ s.ds = 1 by omega)]
  rw [HV]; clear HV
  have HC := hide (fun w => rvcheck_any s ok w)
  rw [(accV_ok hm).1] at HC
  replace HC : Hid (∀ w, Calls prog 14 #[.agg s.cells] w fun e w' => e = .returned (.int .i64 0) ∧ Below w.heap.size w w') := HC
  have H3 := hide (fun w => rhas_3 s.st ok.st w)
  rw [h3] at H3
  have ld1 : decide ((s.ds : Int) < 2) = false := by simp; omega
  have ld2 : decide (s.ds < 2) = false := by simp; omega
  clear hd
  subst h
  rw [show ((32 : Nat) : Int) = 32 from rfl]
  have hse : ((s.se : Nat) : Int) = 0 := by omega
  clear hs
  go_enter func27, ntmps27
  go_wp2_with (first | ((with_reducible refine bx_vr w.heap.size s ?_ ?_ ?_); exact rfl; exact rfl; intro W hr hb hz; have fx := hr.cell) | ((with_reducible refine al_vr (w.heap.size + 1) ?_ ?_); exact hz.out; intro W hq hb' hz'; replace hr := hr.bl (hz.out ▸ hb'); replace hb := hb.trans (hb'.mono (by omega)); replace hz := hz'; replace fx := hr.cell) | (go_at_call 14; (with_reducible refine (HC.out _).mono ?_); rintro e W ⟨rfl, hbc⟩; replace hr := hr.bl hbc; replace hq := hq.bl hbc; replace fx := hr.cell; replace hb := below_bl rfl hb hbc) | (go_at_call 30; (with_reducible refine (H3.out _).mono ?_); rintro e W ⟨rfl, rfl⟩) | ((with_reducible refine ld_se w.heap.size _ _ hr ?_ ?_ ?_); exact rfl; exact rfl) | ((with_reducible refine ld_q0r w.heap.size _ _ hr ?_ ?_ ?_); exact rfl; exact rfl) | (obtain ⟨NQ, hNQ⟩ : ∃ n, W.heap.size = n := ⟨_, rfl⟩; have lNQ : w.heap.size + 2 ≤ NQ := (by (have := hq.lt; omega)); (with_reducible refine al_qr NQ ?_ ?_); exact hNQ; intro W hu hb' hz'; replace hr := hr.bl (hNQ ▸ hb'); replace hq := hq.bl (hNQ ▸ hb'); replace hb := hb.trans (hb'.mono (by omega)); clear hNQ hb' hz'; (try clear fx)) | ((with_reducible refine st_qr NQ _ s.q0 hu ?_ ?_ ?_); exact rfl; exact rfl; intro W hnew ho; replace hr := hr.only ho (by omega); replace hq := hq.only ho (by omega); replace hu := hnew; replace hb := ho.bel _ _ (by omega) hb) | ((with_reducible refine ld_urd NQ _ _ hu ?_ ?_ ?_); exact rfl; exact rfl) | ((with_reducible refine ld_qr NQ _ hu ?_ ?_ ?_); exact rfl; exact rfl) | ((with_reducible refine st_q0r w.heap.size _ s.q0 _ hr ?_ ?_ ?_); exact rfl; exact rfl; intro W hnew ho; replace hq := hq.only ho (by omega); replace hu := hu.only ho (by omega); replace hr := hnew; replace hb := ho.bel _ _ (by omega) hb) | ((with_reducible refine ld_vr w.heap.size _ hr ?_ ?_ ?_); exact rfl; exact rfl) | ((with_reducible refine st_vr (w.heap.size + 1) _ s hq ?_ ?_ ?_); exact rfl; exact rfl; intro W hnew ho; replace hr := hr.only ho (by omega); replace hq := hnew; replace hb := ho.bel _ _ (by omega) hb))
  all_goals (refine bodyPost_ret (results_cell_two' results27 _ _ (w.heap.size + 1) _ _ _ rfl hq underlying31 rfl size_vr) rfl ?_; exact ⟨rfl, hb⟩)
theorem rwr_32d0_0 (s : V) (ok : s.Ok) (a v : Nat) (hv : v < 4294967296) (hm : accV s a = 0) (h : a = 32) (h3 : s.st.testBit 3 = false) (hd : s.ds = 0) (hs : (s.d0w v).se = 0) (w : World) :
    StViRWrB0 s a v w := by
  unfold StViRWrB0
  have HV : writeV s a v = (s.d0w v, -1, 0) := by unfold writeV; rw [if_pos hm]; unfold writeS; subst h; show (askV s v, (-1 : Int), 0) = _; unfold askV; rw [h3, hd]; rfl
  rw [HV]; clear HV
  have HC := hide (fun w => rvcheck_any s ok w)
  rw [(accV_ok hm).1] at HC
  replace HC : Hid (∀ w, Calls prog 14 #[.agg s.cells] w fun e w' => e = .returned (.int .i64 0) ∧ Below w.heap.size w w') := HC
  have H3 := hide (fun w => rhas_3 s.st ok.st w)
  rw [h3] at H3
  have hdi : ((s.ds : Nat) : Int) = 0 := by omega
  clear hd
  obtain ⟨t, ht⟩ : ∃ t, s.d0w v = t := ⟨_, rfl⟩
  have hs2 : t.se = 0 := by rw [← ht]; exact hs
  rw [ht]
  have HT := hide ht
  clear ht hs
  have hs := hs2
  clear hs2
  have hse : ((t.se : Nat) : Int) = 0 := by omega
  clear hs
  subst h
  rw [show ((32 : Nat) : Int) = 32 from rfl]
  go_enter func27, ntmps27
  go_wp2_with (first | ((with_reducible refine bx_vr w.heap.size s ?_ ?_ ?_); exact rfl; exact rfl; intro W hr hb hz; have fx := hr.cell) | ((with_reducible refine al_vr (w.heap.size + 1) ?_ ?_); exact hz.out; intro W hq hb' hz'; replace hr := hr.bl (hz.out ▸ hb'); replace hb := hb.trans (hb'.mono (by omega)); replace hz := hz'; replace fx := hr.cell) | (go_at_call 14; (with_reducible refine (HC.out _).mono ?_); rintro e W ⟨rfl, hbc⟩; replace hr := hr.bl hbc; replace hq := hq.bl hbc; replace fx := hr.cell; replace hb := below_bl rfl hb hbc) | (go_at_call 30; (with_reducible refine (H3.out _).mono ?_); rintro e W ⟨rfl, rfl⟩) | ((with_reducible refine st_d0 w.heap.size _ v _ hr ?_ ?_ ?_); exact rfl; exact rfl; intro W hnew ho; replace hq := hq.only ho (by omega); replace hr := hnew; replace hb := ho.bel _ _ (by omega) hb; (try clear fx); rw [HT.out] at hr) | ((with_reducible refine ld_se w.heap.size _ _ hr ?_ ?_ ?_); exact rfl; exact rfl) | ((with_reducible refine ld_q0r w.heap.size _ _ hr ?_ ?_ ?_); exact rfl; exact rfl) | (obtain ⟨NQ, hNQ⟩ : ∃ n, W.heap.size = n := ⟨_, rfl⟩; have lNQ : w.heap.size + 2 ≤ NQ := (by (have := hq.lt; omega)); (with_reducible refine al_qr NQ ?_ ?_); exact hNQ; intro W hu hb' hz'; replace hr := hr.bl (hNQ ▸ hb'); replace hq := hq.bl (hNQ ▸ hb'); replace hb := hb.trans (hb'.mono (by omega)); clear hNQ hb' hz'; (try clear fx)) | ((with_reducible refine st_qr NQ _ t.q0 hu ?_ ?_ ?_); exact rfl; exact rfl; intro W hnew ho; replace hr := hr.only ho (by omega); replace hq := hq.only ho (by omega); replace hu := hnew; replace hb := ho.bel _ _ (by omega) hb) | ((with_reducible refine ld_urd NQ _ _ hu ?_ ?_ ?_); exact rfl; exact rfl) | ((with_reducible refine ld_qr NQ _ hu ?_ ?_ ?_); exact rfl; exact rfl) | ((with_reducible refine st_q0r w.heap.size _ t.q0 _ hr ?_ ?_ ?_); exact rfl; exact rfl; intro W hnew ho; replace hq := hq.only ho (by omega); replace hu := hu.only ho (by omega); replace hr := hnew; replace hb := ho.bel _ _ (by omega) hb) | ((with_reducible refine ld_vr w.heap.size _ hr ?_ ?_ ?_); exact rfl; exact rfl) | ((with_reducible refine st_vr (w.heap.size + 1) _ t hq ?_ ?_ ?_); exact rfl; exact rfl; intro W hnew ho; replace hr := hr.only ho (by omega); replace hq := hnew; replace hb := ho.bel _ _ (by omega) hb))
  all_goals (refine bodyPost_ret (results_cell_two' results27 _ _ (w.heap.size + 1) _ _ _ rfl hq underlying31 rfl size_vr) rfl ?_; exact ⟨rfl, hb⟩)
theorem rwr_32d1_0 (s : V) (ok : s.Ok) (a v : Nat) (hv : v < 4294967296) (hm : accV s a = 0) (h : a = 32) (h3 : s.st.testBit 3 = false) (hd : s.ds = 1) (hs : (s.d1w v).se = 0) (w : World) :
    StViRWrB0 s a v w := by
  unfold StViRWrB0
  have HV : writeV s a v = (s.d1w v, -1, 0) := by unfold writeV; rw [if_pos hm]; unfold writeS; subst h; show (askV s v, (-1 : Int), 0) = _; unfold askV; rw [h3, hd]; rfl
  rw [HV]; clear HV
  have HC := hide (fun w => rvcheck_any s ok w)
  rw [(accV_ok hm).1] at HC
  replace HC : Hid (∀ w, Calls prog 14 #[.agg s.cells] w fun e w' => e = .returned (.int .i64 0) ∧ Below w.heap.size w w') := HC
  have H3 := hide (fun w => rhas_3 s.st ok.st w)
  rw [h3] at H3
  have hdi : ((s.ds : Nat) : Int) = 1 := by omega
  clear hd
  obtain ⟨t, ht⟩ : ∃ t, s.d1w v = t := ⟨_, rfl⟩
  have hs2 : t.se = 0 := by rw [← ht]; exact hs
  rw [ht]
  have HT := hide ht
  clear ht hs
  have hs := hs2
  clear hs2
  have hse : ((t.se : Nat) : Int) = 0 := by omega
  clear hs
  subst h
  rw [show ((32 : Nat) : Int) = 32 from rfl]
  go_enter func27, ntmps27
  go_wp2_with (first | ((with_reducible refine bx_vr w.heap.size s ?_ ?_ ?_); exact rfl; exact rfl; intro W hr hb hz; have fx := hr.cell) | ((with_reducible refine al_vr (w.heap.size + 1) ?_ ?_); exact hz.out; intro W hq hb' hz'; replace hr := hr.bl (hz.out ▸ hb'); replace hb := hb.trans (hb'.mono (by omega)); replace hz := hz'; replace fx := hr.cell) | (go_at_call 14; (with_reducible refine (HC.out _).mono ?_); rintro e W ⟨rfl, hbc⟩; replace hr := hr.bl hbc; replace hq := hq.bl hbc; replace fx := hr.cell; replace hb := below_bl rfl hb hbc) | (go_at_call 30; (with_reducible refine (H3.out _).mono ?_); rintro e W ⟨rfl, rfl⟩) | ((with_reducible refine st_d1 w.heap.size _ v _ hr ?_ ?_ ?_); exact rfl; exact rfl; intro W hnew ho; replace hq := hq.only ho (by omega); replace hr := hnew; replace hb := ho.bel _ _ (by omega) hb; (try clear fx); rw [HT.out] at hr) | ((with_reducible refine ld_se w.heap.size _ _ hr ?_ ?_ ?_); exact rfl; exact rfl) | ((with_reducible refine ld_q0r w.heap.size _ _ hr ?_ ?_ ?_); exact rfl; exact rfl) | (obtain ⟨NQ, hNQ⟩ : ∃ n, W.heap.size = n := ⟨_, rfl⟩; have lNQ : w.heap.size + 2 ≤ NQ := (by (have := hq.lt; omega)); (with_reducible refine al_qr NQ ?_ ?_); exact hNQ; intro W hu hb' hz'; replace hr := hr.bl (hNQ ▸ hb'); replace hq := hq.bl (hNQ ▸ hb'); replace hb := hb.trans (hb'.mono (by omega)); clear hNQ hb' hz'; (try clear fx)) | ((with_reducible refine st_qr NQ _ t.q0 hu ?_ ?_ ?_); exact rfl; exact rfl; intro W hnew ho; replace hr := hr.only ho (by omega); replace hq := hq.only ho (by omega); replace hu := hnew; replace hb := ho.bel _ _ (by omega) hb) | ((with_reducible refine ld_urd NQ _ _ hu ?_ ?_ ?_); exact rfl; exact rfl) | ((with_reducible refine ld_qr NQ _ hu ?_ ?_ ?_); exact rfl; exact rfl) | ((with_reducible refine st_q0r w.heap.size _ t.q0 _ hr ?_ ?_ ?_); exact rfl; exact rfl; intro W hnew ho; replace hq := hq.only ho (by omega); replace hu := hu.only ho (by omega); replace hr := hnew; replace hb := ho.bel _ _ (by omega) hb) | ((with_reducible refine ld_vr w.heap.size _ hr ?_ ?_ ?_); exact rfl; exact rfl) | ((with_reducible refine st_vr (w.heap.size + 1) _ t hq ?_ ?_ ?_); exact rfl; exact rfl; intro W hnew ho; replace hr := hr.only ho (by omega); replace hq := hnew; replace hb := ho.bel _ _ (by omega) hb))
  all_goals (refine bodyPost_ret (results_cell_two' results27 _ _ (w.heap.size + 1) _ _ _ rfl hq underlying31 rfl size_vr) rfl ?_; exact ⟨rfl, hb⟩)
theorem rwr_32t_1 (s : V) (ok : s.Ok) (a v : Nat) (hv : v < 4294967296) (hm : accV s a = 0) (h : a = 32) (h3 : s.st.testBit 3 = true) (hs : s.se = 1) (w : World) :
    StViRWrB0 s a v w := by
  unfold StViRWrB0
  have HV : writeV s a v = (s, -1, 0) := by unfold writeV; rw [if_pos hm]; unfold writeS; subst h; show (askV s v, (-1 : Int), 0) = _; unfold askV; rw [if_pos h3]
  rw [HV]; clear HV
  have HC := hide (fun w => rvcheck_any s ok w)
  rw [(accV_ok hm).1] at HC
  replace HC : Hid (∀ w, Calls prog 14 #[.agg s.cells] w fun e w' => e = .returned (.int .i64 0) ∧ Below w.heap.size w w') := HC
  have H3 := hide (fun w => rhas_3 s.st ok.st w)
  rw [h3] at H3
  subst h
  rw [show ((32 : Nat) : Int) = 32 from rfl]
  have hse : ((s.se : Nat) : Int) = 1 := by omega
  clear hs
  go_enter func27, ntmps27
  go_wp2_with (first | ((with_reducible refine bx_vr w.heap.size s ?_ ?_ ?_); exact rfl; exact rfl; intro W hr hb hz; have fx := hr.cell) | ((with_reducible refine al_vr (w.heap.size + 1) ?_ ?_); exact hz.out; intro W hq hb' hz'; replace hr := hr.bl (hz.out ▸ hb'); replace hb := hb.trans (hb'.mono (by omega)); replace hz := hz'; replace fx := hr.cell) | (go_at_call 14; (with_reducible refine (HC.out _).mono ?_); rintro e W ⟨rfl, hbc⟩; replace hr := hr.bl hbc; replace hq := hq.bl hbc; replace fx := hr.cell; replace hb := below_bl rfl hb hbc) | (go_at_call 30; (with_reducible refine (H3.out _).mono ?_); rintro e W ⟨rfl, rfl⟩) | ((with_reducible refine ld_se w.heap.size _ _ hr ?_ ?_ ?_); exact rfl; exact rfl) | ((with_reducible refine ld_q1r w.heap.size _ _ hr ?_ ?_ ?_); exact rfl; exact rfl) | (obtain ⟨NQ, hNQ⟩ : ∃ n, W.heap.size = n := ⟨_, rfl⟩; have lNQ : w.heap.size + 2 ≤ NQ := (by (have := hq.lt; omega)); (with_reducible refine al_qr NQ ?_ ?_); exact hNQ; intro W hu hb' hz'; replace hr := hr.bl (hNQ ▸ hb'); replace hq := hq.bl (hNQ ▸ hb'); replace hb := hb.trans (hb'.mono (by omega)); clear hNQ hb' hz'; (try clear fx)) | ((with_reducible refine st_qr NQ _ s.q1 hu ?_ ?_ ?_); exact rfl; exact rfl; intro W hnew ho; replace hr := hr.only ho (by omega); replace hq := hq.only ho (by omega); replace hu := hnew; replace hb := ho.bel _ _ (by omega) hb) | ((with_reducible refine ld_urd NQ _ _ hu ?_ ?_ ?_); exact rfl; exact rfl) | ((with_reducible refine ld_qr NQ _ hu ?_ ?_ ?_); exact rfl; exact rfl) | ((with_reducible refine st_q1r w.heap.size _ s.q1 _ hr ?_ ?_ ?_); exact rfl; exact rfl; intro W hnew ho; replace hq := hq.only ho (by omega); replace hu := hu.only ho (by omega); replace hr := hnew; replace hb := ho.bel _ _ (by omega) hb) | ((with_reducible refine ld_vr w.heap.size _ hr ?_ ?_ ?_); exact rfl; exact rfl) | ((with_reducible refine st_vr (w.heap.size + 1) _ s hq ?_ ?_ ?_); exact rfl; exact rfl; intro W hnew ho; replace hr := hr.only ho (by omega); replace hq := hnew; replace hb := ho.bel _ _ (by omega) hb))
  all_goals (refine bodyPost_ret (results_cell_two' results27 _ _ (w.heap.size + 1) _ _ _ rfl hq underlying31 rfl size_vr) rfl ?_; exact ⟨rfl, hb⟩)
theorem rwr_32n_1 (s : V) (ok : s.Ok) (a v : Nat) (hv : v < 4294967296) (hm : accV s a = 0) (h : a = 32) (h3 : s.st.testBit 3 = false) (hd : 2 ≤ s.ds) (hs : s.se = 1) (w : World) :
    StViRWrB0 s a v w := by
  unfold StViRWrB0
  have HV : writeV s a v = (s, -1, 0) := by unfold writeV; rw [if_pos hm]; unfold writeS; subst h; show (askV s v, (-1 : Int), 0) = _; unfold askV; rw [h3, if_neg (by decide), if_neg (show ¬ s.ds = 0 by omega), if_neg (show ¬ s.ds = 1 by omega)]
  rw [HV]; clear HV
  have HC := hide (fun w => rvcheck_any s ok w)
  rw [(accV_ok hm).1] at HC
  replace HC : Hid (∀ w, Calls prog 14 #[.agg s.cells] w fun e w' => e = .returned (.int .i64 0) ∧ Below w.heap.size w w') := HC
  have H3 := hide (fun w => rhas_3 s.st ok.st w)
  rw [h3] at H3
  have ld1 : decide ((s.ds : Int) < 2) = false := by simp; omega
  have ld2 : decide (s.ds < 2) = false := by simp; omega
  clear hd
  subst h
  rw [show ((32 : Nat) : Int) = 32 from rfl]
  have hse : ((s.se : Nat) : Int) = 1 := by omega
  clear hs
  go_enter func27, ntmps27
  go_wp2_with (first | ((with_reducible refine bx_vr w.heap.size s ?_ ?_ ?_); exact rfl; exact rfl; intro W hr hb hz; have fx := hr.cell) | ((with_reducible refine al_vr (w.heap.size + 1) ?_ ?_); exact hz.out; intro W hq hb' hz'; replace hr := hr.bl (hz.out ▸ hb'); replace hb := hb.trans (hb'.mono (by omega)); replace hz := hz'; replace fx := hr.cell) | (go_at_call 14; (with_reducible refine (HC.out _).mono ?_); rintro e W ⟨rfl, hbc⟩; replace hr := hr.bl hbc; replace hq := hq.bl hbc; replace fx := hr.cell; replace hb := below_bl rfl hb hbc) | (go_at_call 30; (with_reducible refine (H3.out _).mono ?_); rintro e W ⟨rfl, rfl⟩) | ((with_reducible refine ld_se w.heap.size _ _ hr ?_ ?_ ?_); exact rfl; exact rfl) | ((with_reducible refine ld_q1r w.heap.size _ _ hr ?_ ?_ ?_); exact rfl; exact rfl) | (obtain ⟨NQ, hNQ⟩ : ∃ n, W.heap.size = n := ⟨_, rfl⟩; have lNQ : w.heap.size + 2 ≤ NQ := (by (have := hq.lt; omega)); (with_reducible refine al_qr NQ ?_ ?_); exact hNQ; intro W hu hb' hz'; replace hr := hr.bl (hNQ ▸ hb'); replace hq := hq.bl (hNQ ▸ hb'); replace hb := hb.trans (hb'.mono (by omega)); clear hNQ hb' hz'; (try clear fx)) | ((with_reducible refine st_qr NQ _ s.q1 hu ?_ ?_ ?_); exact rfl; exact rfl; intro W hnew ho; replace hr := hr.only ho (by omega); replace hq := hq.only ho (by omega); replace hu := hnew; replace hb := ho.bel _ _ (by omega) hb) | ((with_reducible refine ld_urd NQ _ _ hu ?_ ?_ ?_); exact rfl; exact rfl) | ((with_reducible refine ld_qr NQ _ hu ?_ ?_ ?_); exact rfl; exact rfl) | ((with_reducible refine st_q1r w.heap.size _ s.q1 _ hr ?_ ?_ ?_); exact rfl; exact rfl; intro W hnew ho; replace hq := hq.only ho (by omega); replace hu := hu.only ho (by omega); replace hr := hnew; replace hb := ho.bel _ _ (by omega) hb) | ((with_reducible refine ld_vr w.heap.size _ hr ?_ ?_ ?_); exact rfl; exact rfl) | ((with_reducible refine st_vr (w.heap.size + 1) _ s hq ?_ ?_ ?_); exact rfl; exact rfl; intro W hnew ho; replace hr := hr.only ho (by omega); replace hq := hnew; replace hb := ho.bel _ _ (by omega) hb))
  all_goals (refine bodyPost_ret (results_cell_two' results27 _ _ (w.heap.size + 1) _ _ _ rfl hq underlying31 rfl size_vr) rfl ?_; exact ⟨rfl, hb⟩)
theorem rwr_32d0_1 (s : V) (ok : s.Ok) (a v : Nat) (hv : v < 4294967296) (hm : accV s a = 0) (h : a = 32) (h3 : s.st.testBit 3 = false) (hd : s.ds = 0) (hs : (s.d0w v).se = 1) (w : World) :
    StViRWrB0 s a v w := by
  unfold StViRWrB0
  have HV : writeV s a v = (s.d0w v, -1, 0) := by unfold writeV; rw [if_pos hm]; unfold writeS; subst h; show (askV s v, (-1 : Int), 0) = _; unfold askV; rw [h3, hd]; rfl
  rw [HV]; clear HV
  have HC := hide (fun w => rvcheck_any s ok w)
  rw [(accV_ok hm).1] at HC
  replace HC : Hid (∀ w, Calls prog 14 #[.agg s.cells] w fun e w' => e = .returned (.int .i64 0) ∧ Below w.heap.size w w') := HC
  have H3 := hide (fun w => rhas_3 s.st ok.st w)
  rw [h3] at H3
  have hdi : ((s.ds : Nat) : Int) = 0 := by omega
  clear hd
  obtain ⟨t, ht⟩ : ∃ t, s.d0w v = t := ⟨_, rfl⟩
  have hs2 : t.se = 1 := by rw [← ht]; exact hs
  rw [ht]
  have HT := hide ht
  clear ht hs
  have hs := hs2
  clear hs2
  have hse : ((t.se : Nat) : Int) = 1 := by omega
  clear hs
  subst h
  rw [show ((32 : Nat) : Int) = 32 from rfl]
  go_enter func27, ntmps27
  go_wp2_with (first | ((with_reducible refine bx_vr w.heap.size s ?_ ?_ ?_); exact rfl; exact rfl; intro W hr hb hz; have fx := hr.cell) | ((with_reducible refine al_vr (w.heap.size + 1) ?_ ?_); exact hz.out; intro W hq hb' hz'; replace hr := hr.bl (hz.out ▸ hb'); replace hb := hb.trans (hb'.mono (by omega)); replace hz := hz'; replace fx := hr.cell) | (go_at_call 14; (with_reducible refine (HC.out _).mono ?_); rintro e W ⟨rfl, hbc⟩; replace hr := hr.bl hbc; replace hq := hq.bl hbc; replace fx := hr.cell; replace hb := below_bl rfl hb hbc) | (go_at_call 30; (with_reducible refine (H3.out _).mono ?_); rintro e W ⟨rfl, rfl⟩) | ((with_reducible refine st_d0 w.heap.size _ v _ hr ?_ ?_ ?_); exact rfl; exact rfl; intro W hnew ho; replace hq := hq.only ho (by omega); replace hr := hnew; replace hb := ho.bel _ _ (by omega) hb; (try clear fx); rw [HT.out] at hr) | ((with_reducible refine ld_se w.heap.size _ _ hr ?_ ?_ ?_); exact rfl; exact rfl) | ((with_reducible refine ld_q1r w.heap.size _ _ hr ?_ ?_ ?_); exact rfl; exact rfl) | (obtain ⟨NQ, hNQ⟩ : ∃ n, W.heap.size = n := ⟨_, rfl⟩; have lNQ : w.heap.size + 2 ≤ NQ := (by (have := hq.lt; omega)); (with_reducible refine al_qr NQ ?_ ?_); exact hNQ; intro W hu hb' hz'; replace hr := hr.bl (hNQ ▸ hb'); replace hq := hq.bl (hNQ ▸ hb'); replace hb := hb.trans (hb'.mono (by omega)); clear hNQ hb' hz'; (try clear fx)) | ((with_reducible refine st_qr NQ _ t.q1 hu ?_ ?_ ?_); exact rfl; exact rfl; intro W hnew ho; replace hr := hr.only ho (by omega); replace hq := hq.only ho (by omega); replace hu := hnew; replace hb := ho.bel _ _ (by omega) hb) | ((with_reducible refine ld_urd NQ _ _ hu ?_ ?_ ?_); exact rfl; exact rfl) | ((with_reducible refine ld_qr NQ _ hu ?_ ?_ ?_); exact rfl; exact rfl) | ((with_reducible refine st_q1r w.heap.size _ t.q1 _ hr ?_ ?_ ?_); exact rfl; exact rfl; intro W hnew ho; replace hq := hq.only ho (by omega); replace hu := hu.only ho (by omega); replace hr := hnew; replace hb := ho.bel _ _ (by omega) hb) | ((with_reducible refine ld_vr w.heap.size _ hr ?_ ?_ ?_); exact rfl; exact rfl) | ((with_reducible refine st_vr (w.heap.size + 1) _ t hq ?_ ?_ ?_); exact rfl; exact rfl; intro W hnew ho; replace hr := hr.only ho (by omega); replace hq := hnew; replace hb := ho.bel _ _ (by omega) hb))
  all_goals (refine bodyPost_ret (results_cell_two' results27 _ _ (w.heap.size + 1) _ _ _ rfl hq underlying31 rfl size_vr) rfl ?_; exact ⟨rfl, hb⟩)
theorem rwr_32d1_1 (s : V) (ok : s.Ok) (a v : Nat) (hv : v < 4294967296) (hm : accV s a = 0) (h : a = 32) (h3 : s.st.testBit 3 = false) (hd : s.ds = 1) (hs : (s.d1w v).se = 1) (w : World) :
    StViRWrB0 s a v w := by
  unfold StViRWrB0
  have HV : writeV s a v = (s.d1w v, -1, 0) := by unfold writeV; rw [if_pos hm]; unfold writeS; subst h; show (askV s v, (-1 : Int), 0) = _; unfold askV; rw [h3, hd]; rfl
  rw [HV]; clear HV
  have HC := hide (fun w => rvcheck_any s ok w)
  rw [(accV_ok hm).1] at HC
  replace HC : Hid (∀ w, Calls prog 14 #[.agg s.cells] w fun e w' => e = .returned (.int .i64 0) ∧ Below w.heap.size w w') := HC
  have H3 := hide (fun w => rhas_3 s.st ok.st w)
  rw [h3] at H3
  have hdi : ((s.ds : Nat) : Int) = 1 := by omega
  clear hd
  obtain ⟨t, ht⟩ : ∃ t, s.d1w v = t := ⟨_, rfl⟩
  have hs2 : t.se = 1 := by rw [← ht]; exact hs
  rw [ht]
  have HT := hide ht
  clear ht hs
  have hs := hs2
  clear hs2
  have hse : ((t.se : Nat) : Int) = 1 := by omega
  clear hs
  subst h
  rw [show ((32 : Nat) : Int) = 32 from rfl]
  go_enter func27, ntmps27
  go_wp2_with (first | ((with_reducible refine bx_vr w.heap.size s ?_ ?_ ?_); exact rfl; exact rfl; intro W hr hb hz; have fx := hr.cell) | ((with_reducible refine al_vr (w.heap.size + 1) ?_ ?_); exact hz.out; intro W hq hb' hz'; replace hr := hr.bl (hz.out ▸ hb'); replace hb := hb.trans (hb'.mono (by omega)); replace hz := hz'; replace fx := hr.cell) | (go_at_call 14; (with_reducible refine (HC.out _).mono ?_); rintro e W ⟨rfl, hbc⟩; replace hr := hr.bl hbc; replace hq := hq.bl hbc; replace fx := hr.cell; replace hb := below_bl rfl hb hbc) | (go_at_call 30; (with_reducible refine (H3.out _).mono ?_); rintro e W ⟨rfl, rfl⟩) | ((with_reducible refine st_d1 w.heap.size _ v _ hr ?_ ?_ ?_); exact rfl; exact rfl; intro W hnew ho; replace hq := hq.only ho (by omega); replace hr := hnew; replace hb := ho.bel _ _ (by omega) hb; (try clear fx); rw [HT.out] at hr) | ((with_reducible refine ld_se w.heap.size _ _ hr ?_ ?_ ?_); exact rfl; exact rfl) | ((with_reducible refine ld_q1r w.heap.size _ _ hr ?_ ?_ ?_); exact rfl; exact rfl) | (obtain ⟨NQ, hNQ⟩ : ∃ n, W.heap.size = n := ⟨_, rfl⟩; have lNQ : w.heap.size + 2 ≤ NQ := (by (have := hq.lt; omega)); (with_reducible refine al_qr NQ ?_ ?_); exact hNQ; intro W hu hb' hz'; replace hr := hr.bl (hNQ ▸ hb'); replace hq := hq.bl (hNQ ▸ hb'); replace hb := hb.trans (hb'.mono (by omega)); clear hNQ hb' hz'; (try clear fx)) | ((with_reducible refine st_qr NQ _ t.q1 hu ?_ ?_ ?_); exact rfl; exact rfl; intro W hnew ho; replace hr := hr.only ho (by omega); replace hq := hq.only ho (by omega); replace hu := hnew; replace hb := ho.bel _ _ (by omega) hb) | ((with_reducible refine ld_urd NQ _ _ hu ?_ ?_ ?_); exact rfl; exact rfl) | ((with_reducible refine ld_qr NQ _ hu ?_ ?_ ?_); exact rfl; exact rfl) | ((with_reducible refine st_q1r w.heap.size _ t.q1 _ hr ?_ ?_ ?_); exact rfl; exact rfl; intro W hnew ho; replace hq := hq.only ho (by omega); replace hu := hu.only ho (by omega); replace hr := hnew; replace hb := ho.bel _ _ (by omega) hb) | ((with_reducible refine ld_vr w.heap.size _ hr ?_ ?_ ?_); exact rfl; exact rfl) | ((with_reducible refine st_vr (w.heap.size + 1) _ t hq ?_ ?_ ?_); exact rfl; exact rfl; intro W hnew ho; replace hr := hr.only ho (by omega); replace hq := hnew; replace hb := ho.bel _ _ (by omega) hb))
  all_goals (refine bodyPost_ret (results_cell_two' results27 _ _ (w.heap.size + 1) _ _ _ rfl hq underlying31 rfl size_vr) rfl ?_; exact ⟨rfl, hb⟩)
theorem rwr_80a_far (s : V) (ok : s.Ok) (a v : Nat) (hv : v < 4294967296) (hm : accV s a = 0) (h : a = 80) (h2 : 2 ≤ v) (hs : 2 ≤ s.se) (w : World) :
    StViRWrB0 s a v w := by
  unfold StViRWrB0
  have HV : writeV s a v = (s, -1, 0) := by unfold writeV; rw [if_pos hm]; unfold writeS; subst h; show (s, notV s v, 0) = _; unfold notV; rw [decide_eq_false (show ¬ v < 2 by omega)]; rfl
  rw [HV]; clear HV
  have HC := hide (fun w => rvcheck_any s ok w)
  rw [(accV_ok hm).1] at HC
  replace HC : Hid (∀ w, Calls prog 14 #[.agg s.cells] w fun e w' => e = .returned (.int .i64 0) ∧ Below w.heap.size w w') := HC
  have v1 : decide ((v : Int) < 2) = false := by simp; omega
  have v2 : decide (v < 2) = false := by simp; omega
  clear h2
  subst h
  rw [show ((80 : Nat) : Int) = 80 from rfl]
  have lse : (s.se : Int) > 1 := by omega
  have lseb : (1 : Int) < (s.se : Int) := by omega
  clear hs
  go_enter func27, ntmps27
  go_wp2_with (first | ((with_reducible refine bx_vr w.heap.size s ?_ ?_ ?_); exact rfl; exact rfl; intro W hr hb hz; have fx := hr.cell) | ((with_reducible refine al_vr (w.heap.size + 1) ?_ ?_); exact hz.out; intro W hq hb' hz'; replace hr := hr.bl (hz.out ▸ hb'); replace hb := hb.trans (hb'.mono (by omega)); replace hz := hz'; replace fx := hr.cell) | (go_at_call 14; (with_reducible refine (HC.out _).mono ?_); rintro e W ⟨rfl, hbc⟩; replace hr := hr.bl hbc; replace hq := hq.bl hbc; replace fx := hr.cell; replace hb := below_bl rfl hb hbc) | ((with_reducible refine ld_se w.heap.size _ _ hr ?_ ?_ ?_); exact rfl; exact rfl) | ((with_reducible refine ld_vr w.heap.size _ hr ?_ ?_ ?_); exact rfl; exact rfl) | ((with_reducible refine st_vr (w.heap.size + 1) _ s hq ?_ ?_ ?_); exact rfl; exact rfl; intro W hnew ho; replace hr := hr.only ho (by omega); replace hq := hnew; replace hb := ho.bel _ _ (by omega) hb))
  all_goals (refine bodyPost_ret (results_cell_two' results27 _ _ (w.heap.size + 1) _ _ _ rfl hq underlying31 rfl size_vr) rfl ?_; exact ⟨rfl, hb⟩)
theorem rwr_80f0_far (s : V) (ok : s.Ok) (a v : Nat) (hv : v < 4294967296) (hm : accV s a = 0) (h : a = 80) (h2 : v = 0) (hr0 : s.q0.rd = false) (hs : 2 ≤ s.se) (w : World) :
    StViRWrB0 s a v w := by
  unfold StViRWrB0
  have HV : writeV s a v = (s, -1, 0) := by unfold writeV; rw [if_pos hm]; unfold writeS; subst h; show (s, notV s v, 0) = _; subst h2; unfold notV V.q; simp [hr0]
  rw [HV]; clear HV
  have HC := hide (fun w => rvcheck_any s ok w)
  rw [(accV_ok hm).1] at HC
  replace HC : Hid (∀ w, Calls prog 14 #[.agg s.cells] w fun e w' => e = .returned (.int .i64 0) ∧ Below w.heap.size w w') := HC
  subst h
  rw [show ((80 : Nat) : Int) = 80 from rfl]
  subst h2
  rw [show ((0 : Nat) : Int) = 0 from rfl]
  have lse : (s.se : Int) > 1 := by omega
  have lseb : (1 : Int) < (s.se : Int) := by omega
  clear hs
  go_enter func27, ntmps27
  go_wp2_with (first | ((with_reducible refine bx_vr w.heap.size s ?_ ?_ ?_); exact rfl; exact rfl; intro W hr hb hz; have fx := hr.cell) | ((with_reducible refine al_vr (w.heap.size + 1) ?_ ?_); exact hz.out; intro W hq hb' hz'; replace hr := hr.bl (hz.out ▸ hb'); replace hb := hb.trans (hb'.mono (by omega)); replace hz := hz'; replace fx := hr.cell) | (go_at_call 14; (with_reducible refine (HC.out _).mono ?_); rintro e W ⟨rfl, hbc⟩; replace hr := hr.bl hbc; replace hq := hq.bl hbc; replace fx := hr.cell; replace hb := below_bl rfl hb hbc) | ((with_reducible refine ld_se w.heap.size _ _ hr ?_ ?_ ?_); exact rfl; exact rfl) | ((with_reducible refine ld_vr w.heap.size _ hr ?_ ?_ ?_); exact rfl; exact rfl) | ((with_reducible refine st_vr (w.heap.size + 1) _ s hq ?_ ?_ ?_); exact rfl; exact rfl; intro W hnew ho; replace hr := hr.only ho (by omega); replace hq := hnew; replace hb := ho.bel _ _ (by omega) hb))
  all_goals (refine bodyPost_ret (results_cell_two' results27 _ _ (w.heap.size + 1) _ _ _ rfl hq underlying31 rfl size_vr) rfl ?_; exact ⟨rfl, hb⟩)
theorem rwr_80g0_far (s : V) (ok : s.Ok) (a v : Nat) (hv : v < 4294967296) (hm : accV s a = 0) (h : a = 80) (h2 : v = 0) (hr0 : s.q0.rd = true) (hl : liveV s = false) (hs : 2 ≤ s.se) (w : World) :
    StViRWrB0 s a v w := by
  unfold StViRWrB0
  have HV : writeV s a v = (s, -1, 0) := by unfold writeV; rw [if_pos hm]; unfold writeS; subst h; show (s, notV s v, 0) = _; subst h2; unfold notV V.q; simp [hl]
  rw [HV]; clear HV
  have HC := hide (fun w => rvcheck_any s ok w)
  rw [(accV_ok hm).1] at HC
  replace HC : Hid (∀ w, Calls prog 14 #[.agg s.cells] w fun e w' => e = .returned (.int .i64 0) ∧ Below w.heap.size w w') := HC
  have HL := hide (fun w => rlive_any s ok w)
  rw [hl] at HL
  subst h
  rw [show ((80 : Nat) : Int) = 80 from rfl]
  subst h2
  rw [show ((0 : Nat) : Int) = 0 from rfl]
  have lse : (s.se : Int) > 1 := by omega
  have lseb : (1 : Int) < (s.se : Int) := by omega
  clear hs
  go_enter func27, ntmps27
  go_wp2_with (first | ((with_reducible refine bx_vr w.heap.size s ?_ ?_ ?_); exact rfl; exact rfl; intro W hr hb hz; have fx := hr.cell) | ((with_reducible refine al_vr (w.heap.size + 1) ?_ ?_); exact hz.out; intro W hq hb' hz'; replace hr := hr.bl (hz.out ▸ hb'); replace hb := hb.trans (hb'.mono (by omega)); replace hz := hz'; replace fx := hr.cell) | (go_at_call 14; (with_reducible refine (HC.out _).mono ?_); rintro e W ⟨rfl, hbc⟩; replace hr := hr.bl hbc; replace hq := hq.bl hbc; replace fx := hr.cell; replace hb := below_bl rfl hb hbc) | (go_at_call 42; (with_reducible refine (HL.out _).mono ?_); rintro e W ⟨rfl, hbc⟩; replace hr := hr.bl hbc; replace hq := hq.bl hbc; replace fx := hr.cell; replace hb := below_bl rfl hb hbc) | ((with_reducible refine ld_se w.heap.size _ _ hr ?_ ?_ ?_); exact rfl; exact rfl) | ((with_reducible refine ld_vr w.heap.size _ hr ?_ ?_ ?_); exact rfl; exact rfl) | ((with_reducible refine st_vr (w.heap.size + 1) _ s hq ?_ ?_ ?_); exact rfl; exact rfl; intro W hnew ho; replace hr := hr.only ho (by omega); replace hq := hnew; replace hb := ho.bel _ _ (by omega) hb))
  all_goals (refine bodyPost_ret (results_cell_two' results27 _ _ (w.heap.size + 1) _ _ _ rfl hq underlying31 rfl size_vr) rfl ?_; exact ⟨rfl, hb⟩)
theorem rwr_80f1_far (s : V) (ok : s.Ok) (a v : Nat) (hv : v < 4294967296) (hm : accV s a = 0) (h : a = 80) (h2 : v = 1) (hr0 : s.q1.rd = false) (hs : 2 ≤ s.se) (w : World) :
    StViRWrB0 s a v w := by
  unfold StViRWrB0
  have HV : writeV s a v = (s, -1, 0) := by unfold writeV; rw [if_pos hm]; unfold writeS; subst h; show (s, notV s v, 0) = _; subst h2; unfold notV V.q; simp [hr0]
  rw [HV]; clear HV
  have HC := hide (fun w => rvcheck_any s ok w)
  rw [(accV_ok hm).1] at HC
  replace HC : Hid (∀ w, Calls prog 14 #[.agg s.cells] w fun e w' => e = .returned (.int .i64 0) ∧ Below w.heap.size w w') := HC
  subst h
  rw [show ((80 : Nat) : Int) = 80 from rfl]
  subst h2
  rw [show ((1 : Nat) : Int) = 1 from rfl]
  have lse : (s.se : Int) > 1 := by omega
  have lseb : (1 : Int) < (s.se : Int) := by omega
  clear hs
  go_enter func27, ntmps27
  go_wp2_with (first | ((with_reducible refine bx_vr w.heap.size s ?_ ?_ ?_); exact rfl; exact rfl; intro W hr hb hz; have fx := hr.cell) | ((with_reducible refine al_vr (w.heap.size + 1) ?_ ?_); exact hz.out; intro W hq hb' hz'; replace hr := hr.bl (hz.out ▸ hb'); replace hb := hb.trans (hb'.mono (by omega)); replace hz := hz'; replace fx := hr.cell) | (go_at_call 14; (with_reducible refine (HC.out _).mono ?_); rintro e W ⟨rfl, hbc⟩; replace hr := hr.bl hbc; replace hq := hq.bl hbc; replace fx := hr.cell; replace hb := below_bl rfl hb hbc) | ((with_reducible refine ld_se w.heap.size _ _ hr ?_ ?_ ?_); exact rfl; exact rfl) | ((with_reducible refine ld_vr w.heap.size _ hr ?_ ?_ ?_); exact rfl; exact rfl) | ((with_reducible refine st_vr (w.heap.size + 1) _ s hq ?_ ?_ ?_); exact rfl; exact rfl; intro W hnew ho; replace hr := hr.only ho (by omega); replace hq := hnew; replace hb := ho.bel _ _ (by omega) hb))
  all_goals (refine bodyPost_ret (results_cell_two' results27 _ _ (w.heap.size + 1) _ _ _ rfl hq underlying31 rfl size_vr) rfl ?_; exact ⟨rfl, hb⟩)
theorem rwr_80g1_far (s : V) (ok : s.Ok) (a v : Nat) (hv : v < 4294967296) (hm : accV s a = 0) (h : a = 80) (h2 : v = 1) (hr0 : s.q1.rd = true) (hl : liveV s = false) (hs : 2 ≤ s.se) (w : World) :
    StViRWrB0 s a v w := by
  unfold StViRWrB0
  have HV : writeV s a v = (s, -1, 0) := by unfold writeV; rw [if_pos hm]; unfold writeS; subst h; show (s, notV s v, 0) = _; subst h2; unfold notV V.q; simp [hl]
  rw [HV]; clear HV
  have HC := hide (fun w => rvcheck_any s ok w)
  rw [(accV_ok hm).1] at HC
  replace HC : Hid (∀ w, Calls prog 14 #[.agg s.cells] w fun e w' => e = .returned (.int .i64 0) ∧ Below w.heap.size w w') := HC
  have HL := hide (fun w => rlive_any s ok w)
  rw [hl] at HL
  subst h
  rw [show ((80 : Nat) : Int) = 80 from rfl]
  subst h2
  rw [show ((1 : Nat) : Int) = 1 from rfl]
  have lse : (s.se : Int) > 1 := by omega
  have lseb : (1 : Int) < (s.se : Int) := by omega
  clear hs
  go_enter func27, ntmps27
  go_wp2_with (first | ((with_reducible refine bx_vr w.heap.size s ?_ ?_ ?_); exact rfl; exact rfl; intro W hr hb hz; have fx := hr.cell) | ((with_reducible refine al_vr (w.heap.size + 1) ?_ ?_); exact hz.out; intro W hq hb' hz'; replace hr := hr.bl (hz.out ▸ hb'); replace hb := hb.trans (hb'.mono (by omega)); replace hz := hz'; replace fx := hr.cell) | (go_at_call 14; (with_reducible refine (HC.out _).mono ?_); rintro e W ⟨rfl, hbc⟩; replace hr := hr.bl hbc; replace hq := hq.bl hbc; replace fx := hr.cell; replace hb := below_bl rfl hb hbc) | (go_at_call 42; (with_reducible refine (HL.out _).mono ?_); rintro e W ⟨rfl, hbc⟩; replace hr := hr.bl hbc; replace hq := hq.bl hbc; replace fx := hr.cell; replace hb := below_bl rfl hb hbc) | ((with_reducible refine ld_se w.heap.size _ _ hr ?_ ?_ ?_); exact rfl; exact rfl) | ((with_reducible refine ld_vr w.heap.size _ hr ?_ ?_ ?_); exact rfl; exact rfl) | ((with_reducible refine st_vr (w.heap.size + 1) _ s hq ?_ ?_ ?_); exact rfl; exact rfl; intro W hnew ho; replace hr := hr.only ho (by omega); replace hq := hnew; replace hb := ho.bel _ _ (by omega) hb))
  all_goals (refine bodyPost_ret (results_cell_two' results27 _ _ (w.heap.size + 1) _ _ _ rfl hq underlying31 rfl size_vr) rfl ?_; exact ⟨rfl, hb⟩)
theorem rwr_80a_0 (s : V) (ok : s.Ok) (a v : Nat) (hv : v < 4294967296) (hm : accV s a = 0) (h : a = 80) (h2 : 2 ≤ v) (hs : s.se = 0) (w : World) :
    StViRWrB0 s a v w := by
  unfold StViRWrB0
  have HV : writeV s a v = (s, -1, 0) := by unfold writeV; rw [if_pos hm]; unfold writeS; subst h; show (s, notV s v, 0) = _; unfold notV; rw [decide_eq_false (show ¬ v < 2 by omega)]; rfl
  rw [HV]; clear HV
  have HC := hide (fun w => rvcheck_any s ok w)
  rw [(accV_ok hm).1] at HC
  replace HC : Hid (∀ w, Calls prog 14 #[.agg s.cells] w fun e w' => e = .returned (.int .i64 0) ∧ Below w.heap.size w w') := HC
  have v1 : decide ((v : Int) < 2) = false := by simp; omega
  have v2 : decide (v < 2) = false := by simp; omega
  clear h2
  subst h
  rw [show ((80 : Nat) : Int) = 80 from rfl]
  have hse : ((s.se : Nat) : Int) = 0 := by omega
  clear hs
  go_enter func27, ntmps27
  go_wp2_with (first | ((with_reducible refine bx_vr w.heap.size s ?_ ?_ ?_); exact rfl; exact rfl; intro W hr hb hz; have fx := hr.cell) | ((with_reducible refine al_vr (w.heap.size + 1) ?_ ?_); exact hz.out; intro W hq hb' hz'; replace hr := hr.bl (hz.out ▸ hb'); replace hb := hb.trans (hb'.mono (by omega)); replace hz := hz'; replace fx := hr.cell) | (go_at_call 14; (with_reducible refine (HC.out _).mono ?_); rintro e W ⟨rfl, hbc⟩; replace hr := hr.bl hbc; replace hq := hq.bl hbc; replace fx := hr.cell; replace hb := below_bl rfl hb hbc) | ((with_reducible refine ld_se w.heap.size _ _ hr ?_ ?_ ?_); exact rfl; exact rfl) | ((with_reducible refine ld_q0r w.heap.size _ _ hr ?_ ?_ ?_); exact rfl; exact rfl) | (obtain ⟨NQ, hNQ⟩ : ∃ n, W.heap.size = n := ⟨_, rfl⟩; have lNQ : w.heap.size + 2 ≤ NQ := (by (have := hq.lt; omega)); (with_reducible refine al_qr NQ ?_ ?_); exact hNQ; intro W hu hb' hz'; replace hr := hr.bl (hNQ ▸ hb'); replace hq := hq.bl (hNQ ▸ hb'); replace hb := hb.trans (hb'.mono (by omega)); clear hNQ hb' hz'; (try clear fx)) | ((with_reducible refine st_qr NQ _ s.q0 hu ?_ ?_ ?_); exact rfl; exact rfl; intro W hnew ho; replace hr := hr.only ho (by omega); replace hq := hq.only ho (by omega); replace hu := hnew; replace hb := ho.bel _ _ (by omega) hb) | ((with_reducible refine ld_urd NQ _ _ hu ?_ ?_ ?_); exact rfl; exact rfl) | ((with_reducible refine ld_qr NQ _ hu ?_ ?_ ?_); exact rfl; exact rfl) | ((with_reducible refine st_q0r w.heap.size _ s.q0 _ hr ?_ ?_ ?_); exact rfl; exact rfl; intro W hnew ho; replace hq := hq.only ho (by omega); replace hu := hu.only ho (by omega); replace hr := hnew; replace hb := ho.bel _ _ (by omega) hb) | ((with_reducible refine ld_vr w.heap.size _ hr ?_ ?_ ?_); exact rfl; exact rfl) | ((with_reducible refine st_vr (w.heap.size + 1) _ s hq ?_ ?_ ?_); exact rfl; exact rfl; intro W hnew ho; replace hr := hr.only ho (by omega); replace hq := hnew; replace hb := ho.bel _ _ (by omega) hb))
  all_goals (refine bodyPost_ret (results_cell_two' results27 _ _ (w.heap.size + 1) _ _ _ rfl hq underlying31 rfl size_vr) rfl ?_; exact ⟨rfl, hb⟩)
theorem rwr_80f0_0 (s : V) (ok : s.Ok) (a v : Nat) (hv : v < 4294967296) (hm : accV s a = 0) (h : a = 80) (h2 : v = 0) (hr0 : s.q0.rd = false) (hs : s.se = 0) (w : World) :
    StViRWrB0 s a v w := by
  unfold StViRWrB0
  have HV : writeV s a v = (s, -1, 0) := by unfold writeV; rw [if_pos hm]; unfold writeS; subst h; show (s, notV s v, 0) = _; subst h2; unfold notV V.q; simp [hr0]
  rw [HV]; clear HV
  have HC := hide (fun w => rvcheck_any s ok w)
  rw [(accV_ok hm).1] at HC
  replace HC : Hid (∀ w, Calls prog 14 #[.agg s.cells] w fun e w' => e = .returned (.int .i64 0) ∧ Below w.heap.size w w') := HC
  subst h
  rw [show ((80 : Nat) : Int) = 80 from rfl]
  subst h2
  rw [show ((0 : Nat) : Int) = 0 from rfl]
  have hse : ((s.se : Nat) : Int) = 0 := by omega
  clear hs
  go_enter func27, ntmps27
  go_wp2_with (first | ((with_reducible refine bx_vr w.heap.size s ?_ ?_ ?_); exact rfl; exact rfl; intro W hr hb hz; have fx := hr.cell) | ((with_reducible refine al_vr (w.heap.size + 1) ?_ ?_); exact hz.out; intro W hq hb' hz'; replace hr := hr.bl (hz.out ▸ hb'); replace hb := hb.trans (hb'.mono (by omega)); replace hz := hz'; replace fx := hr.cell) | (go_at_call 14; (with_reducible refine (HC.out _).mono ?_); rintro e W ⟨rfl, hbc⟩; replace hr := hr.bl hbc; replace hq := hq.bl hbc; replace fx := hr.cell; replace hb := below_bl rfl hb hbc) | ((with_reducible refine ld_se w.heap.size _ _ hr ?_ ?_ ?_); exact rfl; exact rfl) | ((with_reducible refine ld_q0r w.heap.size _ _ hr ?_ ?_ ?_); exact rfl; exact rfl) | (obtain ⟨NQ, hNQ⟩ : ∃ n, W.heap.size = n := ⟨_, rfl⟩; have lNQ : w.heap.size + 2 ≤ NQ := (by (have := hq.lt; omega)); (with_reducible refine al_qr NQ ?_ ?_); exact hNQ; intro W hu hb' hz'; replace hr := hr.bl (hNQ ▸ hb'); replace hq := hq.bl (hNQ ▸ hb'); replace hb := hb.trans (hb'.mono (by omega)); clear hNQ hb' hz'; (try clear fx)) | ((with_reducible refine st_qr NQ _ s.q0 hu ?_ ?_ ?_); exact rfl; exact rfl; intro W hnew ho; replace hr := hr.only ho (by omega); replace hq := hq.only ho (by omega); replace hu := hnew; replace hb := ho.bel _ _ (by omega) hb) | ((with_reducible refine ld_urd NQ _ _ hu ?_ ?_ ?_); exact rfl; exact rfl) | ((with_reducible refine ld_qr NQ _ hu ?_ ?_ ?_); exact rfl; exact rfl) | ((with_reducible refine st_q0r w.heap.size _ s.q0 _ hr ?_ ?_ ?_); exact rfl; exact rfl; intro W hnew ho; replace hq := hq.only ho (by omega); replace hu := hu.only ho (by omega); replace hr := hnew; replace hb := ho.bel _ _ (by omega) hb) | ((with_reducible refine ld_vr w.heap.size _ hr ?_ ?_ ?_); exact rfl; exact rfl) | ((with_reducible refine st_vr (w.heap.size + 1) _ s hq ?_ ?_ ?_); exact rfl; exact rfl; intro W hnew ho; replace hr := hr.only ho (by omega); replace hq := hnew; replace hb := ho.bel _ _ (by omega) hb))
  all_goals (refine bodyPost_ret (results_cell_two' results27 _ _ (w.heap.size + 1) _ _ _ rfl hq underlying31 rfl size_vr) rfl ?_; exact ⟨rfl, hb⟩)
theorem rwr_80g0_0 (s : V) (ok : s.Ok) (a v : Nat) (hv : v < 4294967296) (hm : accV s a = 0) (h : a = 80) (h2 : v = 0) (hr0 : s.q0.rd = true) (hl : liveV s = false) (hs : s.se = 0) (w : World) :
    StViRWrB0 s a v w := by
  unfold StViRWrB0
  have HV : writeV s a v = (s, -1, 0) := by unfold writeV; rw [if_pos hm]; unfold writeS; subst h; show (s, notV s v, 0) = _; subst h2; unfold notV V.q; simp [hl]
  rw [HV]; clear HV
  have HC := hide (fun w => rvcheck_any s ok w)
  rw [(accV_ok hm).1] at HC
  replace HC : Hid (∀ w, Calls prog 14 #[.agg s.cells] w fun e w' => e = .returned (.int .i64 0) ∧ Below w.heap.size w w') := HC
  have HL := hide (fun w => rlive_any s ok w)
  rw [hl] at HL
  subst h
  rw [show ((80 : Nat) : Int) = 80 from rfl]
  subst h2
  rw [show ((0 : Nat) : Int) = 0 from rfl]
  have hse : ((s.se : Nat) : Int) = 0 := by omega
  clear hs
  go_enter func27, ntmps27
  go_wp2_with (first | ((with_reducible refine bx_vr w.heap.size s ?_ ?_ ?_); exact rfl; exact rfl; intro W hr hb hz; have fx := hr.cell) | ((with_reducible refine al_vr (w.heap.size + 1) ?_ ?_); exact hz.out; intro W hq hb' hz'; replace hr := hr.bl (hz.out ▸ hb'); replace hb := hb.trans (hb'.mono (by omega)); replace hz := hz'; replace fx := hr.cell) | (go_at_call 14; (with_reducible refine (HC.out _).mono ?_); rintro e W ⟨rfl, hbc⟩; replace hr := hr.bl hbc; replace hq := hq.bl hbc; replace fx := hr.cell; replace hb := below_bl rfl hb hbc) | (go_at_call 42; (with_reducible refine (HL.out _).mono ?_); rintro e W ⟨rfl, hbc⟩; replace hr := hr.bl hbc; replace hq := hq.bl hbc; replace fx := hr.cell; replace hb := below_bl rfl hb hbc) | ((with_reducible refine ld_se w.heap.size _ _ hr ?_ ?_ ?_); exact rfl; exact rfl) | ((with_reducible refine ld_q0r w.heap.size _ _ hr ?_ ?_ ?_); exact rfl; exact rfl) | (obtain ⟨NQ, hNQ⟩ : ∃ n, W.heap.size = n := ⟨_, rfl⟩; have lNQ : w.heap.size + 2 ≤ NQ := (by (have := hq.lt; omega)); (with_reducible refine al_qr NQ ?_ ?_); exact hNQ; intro W hu hb' hz'; replace hr := hr.bl (hNQ ▸ hb'); replace hq := hq.bl (hNQ ▸ hb'); replace hb := hb.trans (hb'.mono (by omega)); clear hNQ hb' hz'; (try clear fx)) | ((with_reducible refine st_qr NQ _ s.q0 hu ?_ ?_ ?_); exact rfl; exact rfl; intro W hnew ho; replace hr := hr.only ho (by omega); replace hq := hq.only ho (by omega); replace hu := hnew; replace hb := ho.bel _ _ (by omega) hb) | ((with_reducible refine ld_urd NQ _ _ hu ?_ ?_ ?_); exact rfl; exact rfl) | ((with_reducible refine ld_qr NQ _ hu ?_ ?_ ?_); exact rfl; exact rfl) | ((with_reducible refine st_q0r w.heap.size _ s.q0 _ hr ?_ ?_ ?_); exact rfl; exact rfl; intro W hnew ho; replace hq := hq.only ho (by omega); replace hu := hu.only ho (by omega); replace hr := hnew; replace hb := ho.bel _ _ (by omega) hb) | ((with_reducible refine ld_vr w.heap.size _ hr ?_ ?_ ?_); exact rfl; exact rfl) | ((with_reducible refine st_vr (w.heap.size + 1) _ s hq ?_ ?_ ?_); exact rfl; exact rfl; intro W hnew ho; replace hr := hr.only ho (by omega); replace hq := hnew; replace hb := ho.bel _ _ (by omega) hb))
  all_goals (refine bodyPost_ret (results_cell_two' results27 _ _ (w.heap.size + 1) _ _ _ rfl hq underlying31 rfl size_vr) rfl ?_; exact ⟨rfl, hb⟩)
theorem rwr_80f1_0 (s : V) (ok : s.Ok) (a v : Nat) (hv : v < 4294967296) (hm : accV s a = 0) (h : a = 80) (h2 : v = 1) (hr0 : s.q1.rd = false) (hs : s.se = 0) (w : World) :
    StViRWrB0 s a v w := by
  unfold StViRWrB0
  have HV : writeV s a v = (s, -1, 0) := by unfold writeV; rw [if_pos hm]; unfold writeS; subst h; show (s, notV s v, 0) = _; subst h2; unfold notV V.q; simp [hr0]
  rw [HV]; clear HV
  have HC := hide (fun w => rvcheck_any s ok w)
  rw [(accV_ok hm).1] at HC
  replace HC : Hid (∀ w, Calls prog 14 #[.agg s.cells] w fun e w' => e = .returned (.int .i64 0) ∧ Below w.heap.size w w') := HC
  subst h
  rw [show ((80 : Nat) : Int) = 80 from rfl]
  subst h2
  rw [show ((1 : Nat) : Int) = 1 from rfl]
  have hse : ((s.se : Nat) : Int) = 0 := by omega
  clear hs
  go_enter func27, ntmps27
  go_wp2_with (first | ((with_reducible refine bx_vr w.heap.size s ?_ ?_ ?_); exact rfl; exact rfl; intro W hr hb hz; have fx := hr.cell) | ((with_reducible refine al_vr (w.heap.size + 1) ?_ ?_); exact hz.out; intro W hq hb' hz'; replace hr := hr.bl (hz.out ▸ hb'); replace hb := hb.trans (hb'.mono (by omega)); replace hz := hz'; replace fx := hr.cell) | (go_at_call 14; (with_reducible refine (HC.out _).mono ?_); rintro e W ⟨rfl, hbc⟩; replace hr := hr.bl hbc; replace hq := hq.bl hbc; replace fx := hr.cell; replace hb := below_bl rfl hb hbc) | ((with_reducible refine ld_se w.heap.size _ _ hr ?_ ?_ ?_); exact rfl; exact rfl) | ((with_reducible refine ld_q0r w.heap.size _ _ hr ?_ ?_ ?_); exact rfl; exact rfl) | (obtain ⟨NQ, hNQ⟩ : ∃ n, W.heap.size = n := ⟨_, rfl⟩; have lNQ : w.heap.size + 2 ≤ NQ := (by (have := hq.lt; omega)); (with_reducible refine al_qr NQ ?_ ?_); exact hNQ; intro W hu hb' hz'; replace hr := hr.bl (hNQ ▸ hb'); replace hq := hq.bl (hNQ ▸ hb'); replace hb := hb.trans (hb'.mono (by omega)); clear hNQ hb' hz'; (try clear fx)) | ((with_reducible refine st_qr NQ _ s.q0 hu ?_ ?_ ?_); exact rfl; exact rfl; intro W hnew ho; replace hr := hr.only ho (by omega); replace hq := hq.only ho (by omega); replace hu := hnew; replace hb := ho.bel _ _ (by omega) hb) | ((with_reducible refine ld_urd NQ _ _ hu ?_ ?_ ?_); exact rfl; exact rfl) | ((with_reducible refine ld_qr NQ _ hu ?_ ?_ ?_); exact rfl; exact rfl) | ((with_reducible refine st_q0r w.heap.size _ s.q0 _ hr ?_ ?_ ?_); exact rfl; exact rfl; intro W hnew ho; replace hq := hq.only ho (by omega); replace hu := hu.only ho (by omega); replace hr := hnew; replace hb := ho.bel _ _ (by omega) hb) | ((with_reducible refine ld_vr w.heap.size _ hr ?_ ?_ ?_); exact rfl; exact rfl) | ((with_reducible refine st_vr (w.heap.size + 1) _ s hq ?_ ?_ ?_); exact rfl; exact rfl; intro W hnew ho; replace hr := hr.only ho (by omega); replace hq := hnew; replace hb := ho.bel _ _ (by omega) hb))
  all_goals (refine bodyPost_ret (results_cell_two' results27 _ _ (w.heap.size + 1) _ _ _ rfl hq underlying31 rfl size_vr) rfl ?_; exact ⟨rfl, hb⟩)
theorem rwr_80g1_0 (s : V) (ok : s.Ok) (a v : Nat) (hv : v < 4294967296) (hm : accV s a = 0) (h : a = 80) (h2 : v = 1) (hr0 : s.q1.rd = true) (hl : liveV s = false) (hs : s.se = 0) (w : World) :
    StViRWrB0 s a v w := by
  unfold StViRWrB0
  have HV : writeV s a v = (s, -1, 0) := by unfold writeV; rw [if_pos hm]; unfold writeS; subst h; show (s, notV s v, 0) = _; subst h2; unfold notV V.q; simp [hl]
  rw [HV]; clear HV
  have HC := hide (fun w => rvcheck_any s ok w)
  rw [(accV_ok hm).1] at HC
  replace HC : Hid (∀ w, Calls prog 14 #[.agg s.cells] w fun e w' => e = .returned (.int .i64 0) ∧ Below w.heap.size w w') := HC
  have HL := hide (fun w => rlive_any s ok w)
  rw [hl] at HL
  subst h
  rw [show ((80 : Nat) : Int) = 80 from rfl]
  subst h2
  rw [show ((1 : Nat) : Int) = 1 from rfl]
  have hse : ((s.se : Nat) : Int) = 0 := by omega
  clear hs
  go_enter func27, ntmps27
  go_wp2_with (first | ((with_reducible refine bx_vr w.heap.size s ?_ ?_ ?_); exact rfl; exact rfl; intro W hr hb hz; have fx := hr.cell) | ((with_reducible refine al_vr (w.heap.size + 1) ?_ ?_); exact hz.out; intro W hq hb' hz'; replace hr := hr.bl (hz.out ▸ hb'); replace hb := hb.trans (hb'.mono (by omega)); replace hz := hz'; replace fx := hr.cell) | (go_at_call 14; (with_reducible refine (HC.out _).mono ?_); rintro e W ⟨rfl, hbc⟩; replace hr := hr.bl hbc; replace hq := hq.bl hbc; replace fx := hr.cell; replace hb := below_bl rfl hb hbc) | (go_at_call 42; (with_reducible refine (HL.out _).mono ?_); rintro e W ⟨rfl, hbc⟩; replace hr := hr.bl hbc; replace hq := hq.bl hbc; replace fx := hr.cell; replace hb := below_bl rfl hb hbc) | ((with_reducible refine ld_se w.heap.size _ _ hr ?_ ?_ ?_); exact rfl; exact rfl) | ((with_reducible refine ld_q0r w.heap.size _ _ hr ?_ ?_ ?_); exact rfl; exact rfl) | (obtain ⟨NQ, hNQ⟩ : ∃ n, W.heap.size = n := ⟨_, rfl⟩; have lNQ : w.heap.size + 2 ≤ NQ := (by (have := hq.lt; omega)); (with_reducible refine al_qr NQ ?_ ?_); exact hNQ; intro W hu hb' hz'; replace hr := hr.bl (hNQ ▸ hb'); replace hq := hq.bl (hNQ ▸ hb'); replace hb := hb.trans (hb'.mono (by omega)); clear hNQ hb' hz'; (try clear fx)) | ((with_reducible refine st_qr NQ _ s.q0 hu ?_ ?_ ?_); exact rfl; exact rfl; intro W hnew ho; replace hr := hr.only ho (by omega); replace hq := hq.only ho (by omega); replace hu := hnew; replace hb := ho.bel _ _ (by omega) hb) | ((with_reducible refine ld_urd NQ _ _ hu ?_ ?_ ?_); exact rfl; exact rfl) | ((with_reducible refine ld_qr NQ _ hu ?_ ?_ ?_); exact rfl; exact rfl) | ((with_reducible refine st_q0r w.heap.size _ s.q0 _ hr ?_ ?_ ?_); exact rfl; exact rfl; intro W hnew ho; replace hq := hq.only ho (by omega); replace hu := hu.only ho (by omega); replace hr := hnew; replace hb := ho.bel _ _ (by omega) hb) | ((with_reducible refine ld_vr w.heap.size _ hr ?_ ?_ ?_); exact rfl; exact rfl) | ((with_reducible refine st_vr (w.heap.size + 1) _ s hq ?_ ?_ ?_); exact rfl; exact rfl; intro W hnew ho; replace hr := hr.only ho (by omega); replace hq := hnew; replace hb := ho.bel _ _ (by omega) hb))
  all_goals (refine bodyPost_ret (results_cell_two' results27 _ _ (w.heap.size + 1) _ _ _ rfl hq underlying31 rfl size_vr) rfl ?_; exact ⟨rfl, hb⟩)
theorem rwr_80a_1 (s : V) (ok : s.Ok) (a v : Nat) (hv : v < 4294967296) (hm : accV s a = 0) (h : a = 80) (h2 : 2 ≤ v) (hs : s.se = 1) (w : World) :
    StViRWrB0 s a v w := by
  unfold StViRWrB0
  have HV : writeV s a v = (s, -1, 0) := by unfold writeV; rw [if_pos hm]; unfold writeS; subst h; show (s, notV s v, 0) = _; unfold notV; rw [decide_eq_false (show ¬ v < 2 by omega)]; rfl
  rw [HV]; clear HV
  have HC := hide (fun w => rvcheck_any s ok w)
  rw [(accV_ok hm).1] at HC
  replace HC : Hid (∀ w, Calls prog 14 #[.agg s.cells] w fun e w' => e = .returned (.int .i64 0) ∧ Below w.heap.size w w') := HC
  have v1 : decide ((v : Int) < 2) = false := by simp; omega
  have v2 : decide (v < 2) = false := by simp; omega
  clear h2
  subst h
  rw [show ((80 : Nat) : Int) = 80 from rfl]
  have hse : ((s.se : Nat) : Int) = 1 := by omega
  clear hs
  go_enter func27, ntmps27
  go_wp2_with (first | ((with_reducible refine bx_vr w.heap.size s ?_ ?_ ?_); exact rfl; exact rfl; intro W hr hb hz; have fx := hr.cell) | ((with_reducible refine al_vr (w.heap.size + 1) ?_ ?_); exact hz.out; intro W hq hb' hz'; replace hr := hr.bl (hz.out ▸ hb'); replace hb := hb.trans (hb'.mono (by omega)); replace hz := hz'; replace fx := hr.cell) | (go_at_call 14; (with_reducible refine (HC.out _).mono ?_); rintro e W ⟨rfl, hbc⟩; replace hr := hr.bl hbc; replace hq := hq.bl hbc; replace fx := hr.cell; replace hb := below_bl rfl hb hbc) | ((with_reducible refine ld_se w.heap.size _ _ hr ?_ ?_ ?_); exact rfl; exact rfl) | ((with_reducible refine ld_q1r w.heap.size _ _ hr ?_ ?_ ?_); exact rfl; exact rfl) | (obtain ⟨NQ, hNQ⟩ : ∃ n, W.heap.size = n := ⟨_, rfl⟩; have lNQ : w.heap.size + 2 ≤ NQ := (by (have := hq.lt; omega)); (with_reducible refine al_qr NQ ?_ ?_); exact hNQ; intro W hu hb' hz'; replace hr := hr.bl (hNQ ▸ hb'); replace hq := hq.bl (hNQ ▸ hb'); replace hb := hb.trans (hb'.mono (by omega)); clear hNQ hb' hz'; (try clear fx)) | ((with_reducible refine st_qr NQ _ s.q1 hu ?_ ?_ ?_); exact rfl; exact rfl; intro W hnew ho; replace hr := hr.only ho (by omega); replace hq := hq.only ho (by omega); replace hu := hnew; replace hb := ho.bel _ _ (by omega) hb) | ((with_reducible refine ld_urd NQ _ _ hu ?_ ?_ ?_); exact rfl; exact rfl) | ((with_reducible refine ld_qr NQ _ hu ?_ ?_ ?_); exact rfl; exact rfl) | ((with_reducible refine st_q1r w.heap.size _ s.q1 _ hr ?_ ?_ ?_); exact rfl; exact rfl; intro W hnew ho; replace hq := hq.only ho (by omega); replace hu := hu.only ho (by omega); replace hr := hnew; replace hb := ho.bel _ _ (by omega) hb) | ((with_reducible refine ld_vr w.heap.size _ hr ?_ ?_ ?_); exact rfl; exact rfl) | ((with_reducible refine st_vr (w.heap.size + 1) _ s hq ?_ ?_ ?_); exact rfl; exact rfl; intro W hnew ho; replace hr := hr.only ho (by omega); replace hq := hnew; replace hb := ho.bel _ _ (by omega) hb))
  all_goals (refine bodyPost_ret (results_cell_two' results27 _ _ (w.heap.size + 1) _ _ _ rfl hq underlying31 rfl size_vr) rfl ?_; exact ⟨rfl, hb⟩)
theorem rwr_80f0_1 (s : V) (ok : s.Ok) (a v : Nat) (hv : v < 4294967296) (hm : accV s a = 0) (h : a = 80) (h2 : v = 0) (hr0 : s.q0.rd = false) (hs : s.se = 1) (w : World) :
    StViRWrB0 s a v w := by
  unfold StViRWrB0
  have HV : writeV s a v = (s, -1, 0) := by unfold writeV; rw [if_pos hm]; unfold writeS; subst h; show (s, notV s v, 0) = _; subst h2; unfold notV V.q; simp [hr0]
  rw [HV]; clear HV
  have HC := hide (fun w => rvcheck_any s ok w)
  rw [(accV_ok hm).1] at HC
  replace HC : Hid (∀ w, Calls prog 14 #[.agg s.cells] w fun e w' => e = .returned (.int .i64 0) ∧ Below w.heap.size w w') := HC
  subst h
  rw [show ((80 : Nat) : Int) = 80 from rfl]
  subst h2
  rw [show ((0 : Nat) : Int) = 0 from rfl]
  have hse : ((s.se : Nat) : Int) = 1 := by omega
  clear hs
  go_enter func27, ntmps27
  go_wp2_with (first | ((with_reducible refine bx_vr w.heap.size s ?_ ?_ ?_); exact rfl; exact rfl; intro W hr hb hz; have fx := hr.cell) | ((with_reducible refine al_vr (w.heap.size + 1) ?_ ?_); exact hz.out; intro W hq hb' hz'; replace hr := hr.bl (hz.out ▸ hb'); replace hb := hb.trans (hb'.mono (by omega)); replace hz := hz'; replace fx := hr.cell) | (go_at_call 14; (with_reducible refine (HC.out _).mono ?_); rintro e W ⟨rfl, hbc⟩; replace hr := hr.bl hbc; replace hq := hq.bl hbc; replace fx := hr.cell; replace hb := below_bl rfl hb hbc) | ((with_reducible refine ld_se w.heap.size _ _ hr ?_ ?_ ?_); exact rfl; exact rfl) | ((with_reducible refine ld_q1r w.heap.size _ _ hr ?_ ?_ ?_); exact rfl; exact rfl) | (obtain ⟨NQ, hNQ⟩ : ∃ n, W.heap.size = n := ⟨_, rfl⟩; have lNQ : w.heap.size + 2 ≤ NQ := (by (have := hq.lt; omega)); (with_reducible refine al_qr NQ ?_ ?_); exact hNQ; intro W hu hb' hz'; replace hr := hr.bl (hNQ ▸ hb'); replace hq := hq.bl (hNQ ▸ hb'); replace hb := hb.trans (hb'.mono (by omega)); clear hNQ hb' hz'; (try clear fx)) | ((with_reducible refine st_qr NQ _ s.q1 hu ?_ ?_ ?_); exact rfl; exact rfl; intro W hnew ho; replace hr := hr.only ho (by omega); replace hq := hq.only ho (by omega); replace hu := hnew; replace hb := ho.bel _ _ (by omega) hb) | ((with_reducible refine ld_urd NQ _ _ hu ?_ ?_ ?_); exact rfl; exact rfl) | ((with_reducible refine ld_qr NQ _ hu ?_ ?_ ?_); exact rfl; exact rfl) | ((with_reducible refine st_q1r w.heap.size _ s.q1 _ hr ?_ ?_ ?_); exact rfl; exact rfl; intro W hnew ho; replace hq := hq.only ho (by omega); replace hu := hu.only ho (by omega); replace hr := hnew; replace hb := ho.bel _ _ (by omega) hb) | ((with_reducible refine ld_vr w.heap.size _ hr ?_ ?_ ?_); exact rfl; exact rfl) | ((with_reducible refine st_vr (w.heap.size + 1) _ s hq ?_ ?_ ?_); exact rfl; exact rfl; intro W hnew ho; replace hr := hr.only ho (by omega); replace hq := hnew; replace hb := ho.bel _ _ (by omega) hb))
  all_goals (refine bodyPost_ret (results_cell_two' results27 _ _ (w.heap.size + 1) _ _ _ rfl hq underlying31 rfl size_vr) rfl ?_; exact ⟨rfl, hb⟩)
theorem rwr_80g0_1 (s : V) (ok : s.Ok) (a v : Nat) (hv : v < 4294967296) (hm : accV s a = 0) (h : a = 80) (h2 : v = 0) (hr0 : s.q0.rd = true) (hl : liveV s = false) (hs : s.se = 1) (w : World) :
    StViRWrB0 s a v w := by
  unfold StViRWrB0
  have HV : writeV s a v = (s, -1, 0) := by unfold writeV; rw [if_pos hm]; unfold writeS; subst h; show (s, notV s v, 0) = _; subst h2; unfold notV V.q; simp [hl]
  rw [HV]; clear HV
  have HC := hide (fun w => rvcheck_any s ok w)
  rw [(accV_ok hm).1] at HC
  replace HC : Hid (∀ w, Calls prog 14 #[.agg s.cells] w fun e w' => e = .returned (.int .i64 0) ∧ Below w.heap.size w w') := HC
  have HL := hide (fun w => rlive_any s ok w)
  rw [hl] at HL
  subst h
  rw [show ((80 : Nat) : Int) = 80 from rfl]
  subst h2
  rw [show ((0 : Nat) : Int) = 0 from rfl]
  have hse : ((s.se : Nat) : Int) = 1 := by omega
  clear hs
  go_enter func27, ntmps27
  go_wp2_with (first | ((with_reducible refine bx_vr w.heap.size s ?_ ?_ ?_); exact rfl; exact rfl; intro W hr hb hz; have fx := hr.cell) | ((with_reducible refine al_vr (w.heap.size + 1) ?_ ?_); exact hz.out; intro W hq hb' hz'; replace hr := hr.bl (hz.out ▸ hb'); replace hb := hb.trans (hb'.mono (by omega)); replace hz := hz'; replace fx := hr.cell) | (go_at_call 14; (with_reducible refine (HC.out _).mono ?_); rintro e W ⟨rfl, hbc⟩; replace hr := hr.bl hbc; replace hq := hq.bl hbc; replace fx := hr.cell; replace hb := below_bl rfl hb hbc) | (go_at_call 42; (with_reducible refine (HL.out _).mono ?_); rintro e W ⟨rfl, hbc⟩; replace hr := hr.bl hbc; replace hq := hq.bl hbc; replace fx := hr.cell; replace hb := below_bl rfl hb hbc) | ((with_reducible refine ld_se w.heap.size _ _ hr ?_ ?_ ?_); exact rfl; exact rfl) | ((with_reducible refine ld_q1r w.heap.size _ _ hr ?_ ?_ ?_); exact rfl; exact rfl) | (obtain ⟨NQ, hNQ⟩ : ∃ n, W.heap.size = n := ⟨_, rfl⟩; have lNQ : w.heap.size + 2 ≤ NQ := (by (have := hq.lt; omega)); (with_reducible refine al_qr NQ ?_ ?_); exact hNQ; intro W hu hb' hz'; replace hr := hr.bl (hNQ ▸ hb'); replace hq := hq.bl (hNQ ▸ hb'); replace hb := hb.trans (hb'.mono (by omega)); clear hNQ hb' hz'; (try clear fx)) | ((with_reducible refine st_qr NQ _ s.q1 hu ?_ ?_ ?_); exact rfl; exact rfl; intro W hnew ho; replace hr := hr.only ho (by omega); replace hq := hq.only ho (by omega); replace hu := hnew; replace hb := ho.bel _ _ (by omega) hb) | ((with_reducible refine ld_urd NQ _ _ hu ?_ ?_ ?_); exact rfl; exact rfl) | ((with_reducible refine ld_qr NQ _ hu ?_ ?_ ?_); exact rfl; exact rfl) | ((with_reducible refine st_q1r w.heap.size _ s.q1 _ hr ?_ ?_ ?_); exact rfl; exact rfl; intro W hnew ho; replace hq := hq.only ho (by omega); replace hu := hu.only ho (by omega); replace hr := hnew; replace hb := ho.bel _ _ (by omega) hb) | ((with_reducible refine ld_vr w.heap.size _ hr ?_ ?_ ?_); exact rfl; exact rfl) | ((with_reducible refine st_vr (w.heap.size + 1) _ s hq ?_ ?_ ?_); exact rfl; exact rfl; intro W hnew ho; replace hr := hr.only ho (by omega); replace hq := hnew; replace hb := ho.bel _ _ (by omega) hb))
  all_goals (refine bodyPost_ret (results_cell_two' results27 _ _ (w.heap.size + 1) _ _ _ rfl hq underlying31 rfl size_vr) rfl ?_; exact ⟨rfl, hb⟩)
theorem rwr_80f1_1 (s : V) (ok : s.Ok) (a v : Nat) (hv : v < 4294967296) (hm : accV s a = 0) (h : a = 80) (h2 : v = 1) (hr0 : s.q1.rd = false) (hs : s.se = 1) (w : World) :
    StViRWrB0 s a v w := by
  unfold StViRWrB0
  have HV : writeV s a v = (s, -1, 0) := by unfold writeV; rw [if_pos hm]; unfold writeS; subst h; show (s, notV s v, 0) = _; subst h2; unfold notV V.q; simp [hr0]
  rw [HV]; clear HV
  have HC := hide (fun w => rvcheck_any s ok w)
  rw [(accV_ok hm).1] at HC
  replace HC : Hid (∀ w, Calls prog 14 #[.agg s.cells] w fun e w' => e = .returned (.int .i64 0) ∧ Below w.heap.size w w') := HC
  subst h
  rw [show ((80 : Nat) : Int) = 80 from rfl]
  subst h2
  rw [show ((1 : Nat) : Int) = 1 from rfl]
  have hse : ((s.se : Nat) : Int) = 1 := by omega
  clear hs
  go_enter func27, ntmps27
  go_wp2_with (first | ((with_reducible refine bx_vr w.heap.size s ?_ ?_ ?_); exact rfl; exact rfl; intro W hr hb hz; have fx := hr.cell) | ((with_reducible refine al_vr (w.heap.size + 1) ?_ ?_); exact hz.out; intro W hq hb' hz'; replace hr := hr.bl (hz.out ▸ hb'); replace hb := hb.trans (hb'.mono (by omega)); replace hz := hz'; replace fx := hr.cell) | (go_at_call 14; (with_reducible refine (HC.out _).mono ?_); rintro e W ⟨rfl, hbc⟩; replace hr := hr.bl hbc; replace hq := hq.bl hbc; replace fx := hr.cell; replace hb := below_bl rfl hb hbc) | ((with_reducible refine ld_se w.heap.size _ _ hr ?_ ?_ ?_); exact rfl; exact rfl) | ((with_reducible refine ld_q1r w.heap.size _ _ hr ?_ ?_ ?_); exact rfl; exact rfl) | (obtain ⟨NQ, hNQ⟩ : ∃ n, W.heap.size = n := ⟨_, rfl⟩; have lNQ : w.heap.size + 2 ≤ NQ := (by (have := hq.lt; omega)); (with_reducible refine al_qr NQ ?_ ?_); exact hNQ; intro W hu hb' hz'; replace hr := hr.bl (hNQ ▸ hb'); replace hq := hq.bl (hNQ ▸ hb'); replace hb := hb.trans (hb'.mono (by omega)); clear hNQ hb' hz'; (try clear fx)) | ((with_reducible refine st_qr NQ _ s.q1 hu ?_ ?_ ?_); exact rfl; exact rfl; intro W hnew ho; replace hr := hr.only ho (by omega); replace hq := hq.only ho (by omega); replace hu := hnew; replace hb := ho.bel _ _ (by omega) hb) | ((with_reducible refine ld_urd NQ _ _ hu ?_ ?_ ?_); exact rfl; exact rfl) | ((with_reducible refine ld_qr NQ _ hu ?_ ?_ ?_); exact rfl; exact rfl) | ((with_reducible refine st_q1r w.heap.size _ s.q1 _ hr ?_ ?_ ?_); exact rfl; exact rfl; intro W hnew ho; replace hq := hq.only ho (by omega); replace hu := hu.only ho (by omega); replace hr := hnew; replace hb := ho.bel _ _ (by omega) hb) | ((with_reducible refine ld_vr w.heap.size _ hr ?_ ?_ ?_); exact rfl; exact rfl) | ((with_reducible refine st_vr (w.heap.size + 1) _ s hq ?_ ?_ ?_); exact rfl; exact rfl; intro W hnew ho; replace hr := hr.only ho (by omega); replace hq := hnew; replace hb := ho.bel _ _ (by omega) hb))
  all_goals (refine bodyPost_ret (results_cell_two' results27 _ _ (w.heap.size + 1) _ _ _ rfl hq underlying31 rfl size_vr) rfl ?_; exact ⟨rfl, hb⟩)
theorem rwr_80g1_1 (s : V) (ok : s.Ok) (a v : Nat) (hv : v < 4294967296) (hm : accV s a = 0) (h : a = 80) (h2 : v = 1) (hr0 : s.q1.rd = true) (hl : liveV s = false) (hs : s.se = 1) (w : World) :
    StViRWrB0 s a v w := by
  unfold StViRWrB0
  have HV : writeV s a v = (s, -1, 0) := by unfold writeV; rw [if_pos hm]; unfold writeS; subst h; show (s, notV s v, 0) = _; subst h2; unfold notV V.q; simp [hl]
  rw [HV]; clear HV
  have HC := hide (fun w => rvcheck_any s ok w)
  rw [(accV_ok hm).1] at HC
  replace HC : Hid (∀ w, Calls prog 14 #[.agg s.cells] w fun e w' => e = .returned (.int .i64 0) ∧ Below w.heap.size w w') := HC
  have HL := hide (fun w => rlive_any s ok w)
  rw [hl] at HL
  subst h
  rw [show ((80 : Nat) : Int) = 80 from rfl]
  subst h2
  rw [show ((1 : Nat) : Int) = 1 from rfl]
  have hse : ((s.se : Nat) : Int) = 1 := by omega
  clear hs
  go_enter func27, ntmps27
  go_wp2_with (first | ((with_reducible refine bx_vr w.heap.size s ?_ ?_ ?_); exact rfl; exact rfl; intro W hr hb hz; have fx := hr.cell) | ((with_reducible refine al_vr (w.heap.size + 1) ?_ ?_); exact hz.out; intro W hq hb' hz'; replace hr := hr.bl (hz.out ▸ hb'); replace hb := hb.trans (hb'.mono (by omega)); replace hz := hz'; replace fx := hr.cell) | (go_at_call 14; (with_reducible refine (HC.out _).mono ?_); rintro e W ⟨rfl, hbc⟩; replace hr := hr.bl hbc; replace hq := hq.bl hbc; replace fx := hr.cell; replace hb := below_bl rfl hb hbc) | (go_at_call 42; (with_reducible refine (HL.out _).mono ?_); rintro e W ⟨rfl, hbc⟩; replace hr := hr.bl hbc; replace hq := hq.bl hbc; replace fx := hr.cell; replace hb := below_bl rfl hb hbc) | ((with_reducible refine ld_se w.heap.size _ _ hr ?_ ?_ ?_); exact rfl; exact rfl) | ((with_reducible refine ld_q1r w.heap.size _ _ hr ?_ ?_ ?_); exact rfl; exact rfl) | (obtain ⟨NQ, hNQ⟩ : ∃ n, W.heap.size = n := ⟨_, rfl⟩; have lNQ : w.heap.size + 2 ≤ NQ := (by (have := hq.lt; omega)); (with_reducible refine al_qr NQ ?_ ?_); exact hNQ; intro W hu hb' hz'; replace hr := hr.bl (hNQ ▸ hb'); replace hq := hq.bl (hNQ ▸ hb'); replace hb := hb.trans (hb'.mono (by omega)); clear hNQ hb' hz'; (try clear fx)) | ((with_reducible refine st_qr NQ _ s.q1 hu ?_ ?_ ?_); exact rfl; exact rfl; intro W hnew ho; replace hr := hr.only ho (by omega); replace hq := hq.only ho (by omega); replace hu := hnew; replace hb := ho.bel _ _ (by omega) hb) | ((with_reducible refine ld_urd NQ _ _ hu ?_ ?_ ?_); exact rfl; exact rfl) | ((with_reducible refine ld_qr NQ _ hu ?_ ?_ ?_); exact rfl; exact rfl) | ((with_reducible refine st_q1r w.heap.size _ s.q1 _ hr ?_ ?_ ?_); exact rfl; exact rfl; intro W hnew ho; replace hq := hq.only ho (by omega); replace hu := hu.only ho (by omega); replace hr := hnew; replace hb := ho.bel _ _ (by omega) hb) | ((with_reducible refine ld_vr w.heap.size _ hr ?_ ?_ ?_); exact rfl; exact rfl) | ((with_reducible refine st_vr (w.heap.size + 1) _ s hq ?_ ?_ ?_); exact rfl; exact rfl; intro W hnew ho; replace hr := hr.only ho (by omega); replace hq := hnew; replace hb := ho.bel _ _ (by omega) hb))
  all_goals (refine bodyPost_ret (results_cell_two' results27 _ _ (w.heap.size + 1) _ _ _ rfl hq underlying31 rfl size_vr) rfl ?_; exact ⟨rfl, hb⟩)
theorem rwr_80h0 (s : V) (ok : s.Ok) (a v : Nat) (hv : v < 4294967296) (hm : accV s a = 0) (h : a = 80) (h2 : v = 0) (hr0 : s.q0.rd = true) (hl : liveV s = true) (w : World) :
    StViRWrB0 s a v w := by
  unfold StViRWrB0
  have HV : writeV s a v = (s, 0, 0) := by unfold writeV; rw [if_pos hm]; unfold writeS; subst h; show (s, notV s v, 0) = _; subst h2; unfold notV V.q; simp [hr0, hl]
  rw [HV]; clear HV
  have HC := hide (fun w => rvcheck_any s ok w)
  rw [(accV_ok hm).1] at HC
  replace HC : Hid (∀ w, Calls prog 14 #[.agg s.cells] w fun e w' => e = .returned (.int .i64 0) ∧ Below w.heap.size w w') := HC
  have HL := hide (fun w => rlive_any s ok w)
  rw [hl] at HL
  subst h
  rw [show ((80 : Nat) : Int) = 80 from rfl]
  subst h2
  rw [show ((0 : Nat) : Int) = 0 from rfl]
  go_enter func27, ntmps27
  go_wp2_with (first | ((with_reducible refine bx_vr w.heap.size s ?_ ?_ ?_); exact rfl; exact rfl; intro W hr hb hz; have fx := hr.cell) | ((with_reducible refine al_vr (w.heap.size + 1) ?_ ?_); exact hz.out; intro W hq hb' hz'; replace hr := hr.bl (hz.out ▸ hb'); replace hb := hb.trans (hb'.mono (by omega)); replace hz := hz'; replace fx := hr.cell) | (go_at_call 14; (with_reducible refine (HC.out _).mono ?_); rintro e W ⟨rfl, hbc⟩; replace hr := hr.bl hbc; replace hq := hq.bl hbc; replace fx := hr.cell; replace hb := below_bl rfl hb hbc) | (go_at_call 42; (with_reducible refine (HL.out _).mono ?_); rintro e W ⟨rfl, hbc⟩; replace hr := hr.bl hbc; replace hq := hq.bl hbc; replace fx := hr.cell; replace hb := below_bl rfl hb hbc) | ((with_reducible refine ld_vr w.heap.size _ hr ?_ ?_ ?_); exact rfl; exact rfl) | ((with_reducible refine st_vr (w.heap.size + 1) _ s hq ?_ ?_ ?_); exact rfl; exact rfl; intro W hnew ho; replace hr := hr.only ho (by omega); replace hq := hnew; replace hb := ho.bel _ _ (by omega) hb))
  all_goals (refine bodyPost_ret (results_cell_two' results27 _ _ (w.heap.size + 1) _ _ _ rfl hq underlying31 rfl size_vr) rfl ?_; exact ⟨rfl, hb⟩)
theorem rwr_80h1 (s : V) (ok : s.Ok) (a v : Nat) (hv : v < 4294967296) (hm : accV s a = 0) (h : a = 80) (h2 : v = 1) (hr0 : s.q1.rd = true) (hl : liveV s = true) (w : World) :
    StViRWrB0 s a v w := by
  unfold StViRWrB0
  have HV : writeV s a v = (s, 1, 0) := by unfold writeV; rw [if_pos hm]; unfold writeS; subst h; show (s, notV s v, 0) = _; subst h2; unfold notV V.q; simp [hr0, hl]
  rw [HV]; clear HV
  have HC := hide (fun w => rvcheck_any s ok w)
  rw [(accV_ok hm).1] at HC
  replace HC : Hid (∀ w, Calls prog 14 #[.agg s.cells] w fun e w' => e = .returned (.int .i64 0) ∧ Below w.heap.size w w') := HC
  have HL := hide (fun w => rlive_any s ok w)
  rw [hl] at HL
  subst h
  rw [show ((80 : Nat) : Int) = 80 from rfl]
  subst h2
  rw [show ((1 : Nat) : Int) = 1 from rfl]
  go_enter func27, ntmps27
  go_wp2_with (first | ((with_reducible refine bx_vr w.heap.size s ?_ ?_ ?_); exact rfl; exact rfl; intro W hr hb hz; have fx := hr.cell) | ((with_reducible refine al_vr (w.heap.size + 1) ?_ ?_); exact hz.out; intro W hq hb' hz'; replace hr := hr.bl (hz.out ▸ hb'); replace hb := hb.trans (hb'.mono (by omega)); replace hz := hz'; replace fx := hr.cell) | (go_at_call 14; (with_reducible refine (HC.out _).mono ?_); rintro e W ⟨rfl, hbc⟩; replace hr := hr.bl hbc; replace hq := hq.bl hbc; replace fx := hr.cell; replace hb := below_bl rfl hb hbc) | (go_at_call 42; (with_reducible refine (HL.out _).mono ?_); rintro e W ⟨rfl, hbc⟩; replace hr := hr.bl hbc; replace hq := hq.bl hbc; replace fx := hr.cell; replace hb := below_bl rfl hb hbc) | ((with_reducible refine ld_vr w.heap.size _ hr ?_ ?_ ?_); exact rfl; exact rfl) | ((with_reducible refine st_vr (w.heap.size + 1) _ s hq ?_ ?_ ?_); exact rfl; exact rfl; intro W hnew ho; replace hr := hr.only ho (by omega); replace hq := hnew; replace hb := ho.bel _ _ (by omega) hb))
  all_goals (refine bodyPost_ret (results_cell_two' results27 _ _ (w.heap.size + 1) _ _ _ rfl hq underlying31 rfl size_vr) rfl ?_; exact ⟨rfl, hb⟩)
end Go.Proofs.YtbggkoahofnnjaaGreatDoor
