/-
  What uart's readData and writeData answer.
-/
import Derived.Test.YthopfecjnbfnmaaUaAsk
import Derived.Test.YthopfecjnbfnmaaUaTake
import Derived.Deep.RegionHeld3
namespace Go.Proofs.Ythopfecjnbfnmaa
open Go.RowKit
set_option linter.unusedVariables false

set_option maxHeartbeats 1000000 in
theorem rdata_dl (s : U) (ok : s.Ok) (hd : dlB s = true) (w : World) :
    Calls Try.prog 25 #[.agg s.cells] w fun e w' => e = .returned (.tuple #[.agg (dataS s).1.cells, .int .u8 ((dataS s).2 : Nat)]) ∧ Below w.heap.size w w' := by
  have HV : dataS s = (s, s.dl) := by unfold dataS; rw [if_pos hd]
  rw [HV]; clear HV
  have HD := hide (fun w => div_any s ok w)
  rw [hd] at HD
  go_enter Try.func25, Try.ntmps25
  go_wp2_with (first | ((with_reducible refine bx_up w.heap.size s ?_ ?_ ?_); exact rfl; exact rfl; intro W hr hb hz) | ((with_reducible refine al_up (w.heap.size + 1) ?_ ?_); exact hz.out; intro W hq hb' hz'; replace hr := hr.bl (hz.out ▸ hb'); replace hb := hb.trans (hb'.mono (by omega)); replace hz := hz') | ((with_reducible refine ld_up w.heap.size _ hr ?_ ?_ ?_); exact rfl; exact rfl) | (go_at_call 23; (with_reducible refine (HD.out _).mono ?_); rintro e W ⟨rfl, hbc⟩; replace hr := hr.bl hbc; replace hq := hq.bl hbc; replace hb := below_bl rfl hb hbc))
  refine wp_region_held_drew (S := (fun V => RowAt V w.heap.size s.cells 29 ∧ Below w.heap.size w V)) (by kernel_rfl) ?_ (fun hHeld => ?_)
  · exact ⟨hr.dr, hb.drew⟩
  replace hq := hq.dr
  generalize W.drew = V at hHeld hq ⊢
  clear hr hb
  refine wpAnyH_take (i := 0) (oi := ?oi1) (v := .agg s.cells) ?hi1 (by kernel_rfl) (by kernel_rfl) (by kernel_rfl) ?hQ1 ?hy1 (by assumption) ?rest1
  case hi1 => (simp only [List.getElem?_toArray, List.getElem?_cons_zero]; rfl)
  case hQ1 => exact fun _ _ _ h => h
  case hy1 => exact y_up w.heap.size s (fun V hV => hV.1) rfl rfl
  simp only [Act.put, List.setIfInBounds_toArray, List.set_cons_zero, List.set_cons_succ]
  refine wpAnyH_take (i := 1) (oi := ?oi2) (v := .pointer (some ⟨w.heap.size, 38, none⟩)) ?hi2 (by kernel_rfl) (by kernel_rfl) (by kernel_rfl) ?hQ2 ?hy2 (by assumption) ?rest2
  case hi2 => (simp only [List.getElem?_toArray, List.getElem?_cons_zero, List.getElem?_cons_succ]; rfl)
  case hQ2 => exact fun _ _ _ h => h
  case hy2 => exact Or.inl ⟨by rfl, by (intro w hSw; (try dsimp only at hSw); go_simp )⟩
  simp only [Act.put, List.setIfInBounds_toArray, List.set_cons_zero, List.set_cons_succ]
  refine wpAnyH_take (i := 2) (oi := ?oi3) (v := .int .u8 (s.dl : Nat)) ?hi3 (by kernel_rfl) (by kernel_rfl) (by kernel_rfl) ?hQ3 ?hy3 (by assumption) ?rest3
  case hi3 => (simp only [List.getElem?_toArray, List.getElem?_cons_zero, List.getElem?_cons_succ]; rfl)
  case hQ3 => exact fun _ _ _ h => h
  case hy3 => exact y_dl w.heap.size s _ (fun V hV => hV.1) rfl
  simp only [Act.put, List.setIfInBounds_toArray, List.set_cons_zero, List.set_cons_succ]
  refine wpAnyH_ready (rs := [3]) (by kernel_rfl) (by simp) ?_
  refine AllReadyH.cons (o := ?oi4) ?hi4 (fun K hK => ?_) AllReadyH.nil
  case hi4 => (simp only [List.getElem?_toArray, List.getElem?_cons_zero, List.getElem?_cons_succ]; rfl)
  rw [if_pos (by rfl)]
  (with_reducible refine s_up (w.heap.size + 1) _ s hq ?_ ?_ ?_)
  · exact rfl
  · exact rfl
  intro V hnew ho
  have hH2 := hide (And.intro (hHeld.1.only ho (by omega)) (ho.bel _ _ (by omega) hHeld.2))
  replace hq := hnew
  clear hHeld hnew ho
  refine hK.out _ _ ?_ (fun hHeld => ?_)
  · exact hH2.out
  clear hK K
  clear hH2
  refine wpAnyH_take (i := 4) (oi := ?oi5) (v := .int .u8 (s.dl : Nat)) ?hi5 (by kernel_rfl) (by kernel_rfl) (by kernel_rfl) ?hQ5 ?hy5 (by assumption) ?rest5
  case hi5 => (simp only [List.getElem?_toArray, List.getElem?_cons_zero, List.getElem?_cons_succ]; rfl)
  case hQ5 => exact fun _ _ _ h => h
  case hy5 => exact Or.inl ⟨by rfl, by (intro w hSw; (try dsimp only at hSw); go_simp )⟩
  simp only [Act.put, List.setIfInBounds_toArray, List.set_cons_zero, List.set_cons_succ]
  refine wpAnyH_done (by kernel_rfl) ?_ _
  have hr := hHeld.1
  have hb := hHeld.2
  clear hHeld
  go_wp2
  refine bodyPost_ret (results_cell_one Try.results25 _ _ (w.heap.size + 1) _ _ _ rfl hq Try.underlying29 rfl size_up) rfl ?_
  exact ⟨rfl, hb⟩

set_option maxHeartbeats 1000000 in
theorem rdata_no (s : U) (ok : s.Ok) (hd : dlB s = false) (h0 : s.rx.n = 0) (w : World) :
    Calls Try.prog 25 #[.agg s.cells] w fun e w' => e = .returned (.tuple #[.agg (dataS s).1.cells, .int .u8 ((dataS s).2 : Nat)]) ∧ Below w.heap.size w w' := by
  have HV : dataS s = (s, 0) := by unfold dataS; rw [hd, if_neg (by decide), if_pos h0]
  rw [HV]; clear HV
  have t0 : (s.rx.n == 0) = true := by simp [h0]
  clear h0
  have HD := hide (fun w => div_any s ok w)
  rw [hd] at HD
  have HE := hide (fun f w => empty_any f w)
  go_enter Try.func25, Try.ntmps25
  go_wp2_with (first | ((with_reducible refine bx_up w.heap.size s ?_ ?_ ?_); exact rfl; exact rfl; intro W hr hb hz) | ((with_reducible refine al_up (w.heap.size + 1) ?_ ?_); exact hz.out; intro W hq hb' hz'; replace hr := hr.bl (hz.out ▸ hb'); replace hb := hb.trans (hb'.mono (by omega)); replace hz := hz') | ((with_reducible refine ld_up w.heap.size _ hr ?_ ?_ ?_); exact rfl; exact rfl) | (go_at_call 23; (with_reducible refine (HD.out _).mono ?_); rintro e W ⟨rfl, hbc⟩; replace hr := hr.bl hbc; replace hq := hq.bl hbc; replace hb := below_bl rfl hb hbc) | ((with_reducible refine ld_rxp w.heap.size _ _ hr ?_ ?_ ?_); exact rfl; exact rfl) | (go_at_call 15; (with_reducible refine (HE.out _ _).mono ?_); rintro e W ⟨rfl, hbc⟩; replace hr := hr.bl hbc; replace hq := hq.bl hbc; replace hb := below_bl rfl hb hbc) | ((with_reducible refine st_up (w.heap.size + 1) _ s hq ?_ ?_ ?_); exact rfl; exact rfl; intro W hnew ho; replace hr := hr.only ho (by omega); replace hq := hnew; replace hb := ho.bel _ _ (by omega) hb))
  refine bodyPost_ret (results_cell_one Try.results25 _ _ (w.heap.size + 1) _ _ _ rfl hq Try.underlying29 rfl size_up) rfl ?_
  exact ⟨rfl, hb⟩

set_option maxHeartbeats 1000000 in
theorem rdata_yes (s : U) (ok : s.Ok) (hd : dlB s = false) (h0 : 0 < s.rx.n) (h1 : s.rx.n ≤ 16) (w : World) :
    Calls Try.prog 25 #[.agg s.cells] w fun e w' => e = .returned (.tuple #[.agg (dataS s).1.cells, .int .u8 ((dataS s).2 : Nat)]) ∧ Below w.heap.size w w' := by
  have HV : dataS s = (withRx s (takeF s.rx), s.rx.b 0) := by unfold dataS; rw [hd, if_neg (by decide), if_neg (by omega)]
  rw [HV]; clear HV
  have t0 : (s.rx.n == 0) = false := by simp; omega
  have HT := hide (fun w => take_any s.rx h0 h1 w)
  clear h0 h1
  have HD := hide (fun w => div_any s ok w)
  rw [hd] at HD
  have HE := hide (fun f w => empty_any f w)
  go_enter Try.func25, Try.ntmps25
  go_wp2_with (first | ((with_reducible refine bx_up w.heap.size s ?_ ?_ ?_); exact rfl; exact rfl; intro W hr hb hz) | ((with_reducible refine al_up (w.heap.size + 1) ?_ ?_); exact hz.out; intro W hq hb' hz'; replace hr := hr.bl (hz.out ▸ hb'); replace hb := hb.trans (hb'.mono (by omega)); replace hz := hz') | ((with_reducible refine ld_up w.heap.size _ hr ?_ ?_ ?_); exact rfl; exact rfl) | (go_at_call 23; (with_reducible refine (HD.out _).mono ?_); rintro e W ⟨rfl, hbc⟩; replace hr := hr.bl hbc; replace hq := hq.bl hbc; replace hb := below_bl rfl hb hbc) | ((with_reducible refine ld_rxp w.heap.size _ _ hr ?_ ?_ ?_); exact rfl; exact rfl) | (go_at_call 15; (with_reducible refine (HE.out _ _).mono ?_); rintro e W ⟨rfl, hbc⟩; replace hr := hr.bl hbc; replace hq := hq.bl hbc; replace hb := below_bl rfl hb hbc) | (go_at_call 16; (with_reducible refine (HT.out _).mono ?_); rintro e W ⟨rfl, hbc⟩; replace hr := hr.bl hbc; replace hq := hq.bl hbc; replace hb := below_bl rfl hb hbc) | ((with_reducible refine st_rxp w.heap.size _ (takeF s.rx) _ hr ?_ ?_ ?_); exact rfl; exact rfl; intro W hnew ho; replace hq := hq.only ho (by omega); replace hr := hnew; replace hb := ho.bel _ _ (by omega) hb) | ((with_reducible refine st_up (w.heap.size + 1) _ (withRx s (takeF s.rx)) hq ?_ ?_ ?_); exact rfl; exact rfl; intro W hnew ho; replace hr := hr.only ho (by omega); replace hq := hnew; replace hb := ho.bel _ _ (by omega) hb))
  refine bodyPost_ret (results_cell_one Try.results25 _ _ (w.heap.size + 1) _ _ _ rfl hq Try.underlying29 rfl size_up) rfl ?_
  exact ⟨rfl, hb⟩

theorem rdata_any (s : U) (ok : s.Ok) (hm : mayF s.rx = true) (w : World) :
    Calls Try.prog 25 #[.agg s.cells] w fun e w' => e = .returned (.tuple #[.agg (dataS s).1.cells, .int .u8 ((dataS s).2 : Nat)]) ∧ Below w.heap.size w w' := by
  have h0 := mayF.n0 hm
  have h1 := mayF.n16 hm
  cases hd : dlB s with
  | true => exact rdata_dl s ok hd w
  | false =>
    by_cases h : s.rx.n = 0
    · exact rdata_no s ok hd h w
    · exact rdata_yes s ok hd (by omega) h1 w
set_option maxHeartbeats 1000000 in
theorem wdata_dl (s : U) (ok : s.Ok) (v : Nat) (hd : dlB s = true) (w : World) :
    Calls Try.prog 22 #[.agg s.cells, .int .u8 (v : Nat)] w fun e w' => e = .returned (.agg (dataW s v).cells) ∧ Below w.heap.size w w' := by
  have HV : dataW s v = withDl s v := by unfold dataW; rw [if_pos hd]
  rw [HV]; clear HV
  have HD := hide (fun w => div_any s ok w)
  rw [hd] at HD
  go_enter Try.func22, Try.ntmps22
  go_wp2_with (first | ((with_reducible refine bx_up w.heap.size s ?_ ?_ ?_); exact rfl; exact rfl; intro W hr hb hz) | ((with_reducible refine al_up (w.heap.size + 1) ?_ ?_); exact hz.out; intro W hq hb' hz'; replace hr := hr.bl (hz.out ▸ hb'); replace hb := hb.trans (hb'.mono (by omega)); replace hz := hz') | ((with_reducible refine ld_up w.heap.size _ hr ?_ ?_ ?_); exact rfl; exact rfl) | (go_at_call 23; (with_reducible refine (HD.out _).mono ?_); rintro e W ⟨rfl, hbc⟩; replace hr := hr.bl hbc; replace hq := hq.bl hbc; replace hb := below_bl rfl hb hbc) | ((with_reducible refine st_dl w.heap.size _ v _ hr ?_ ?_ ?_); exact rfl; exact rfl; intro W hnew ho; replace hq := hq.only ho (by omega); replace hr := hnew; replace hb := ho.bel _ _ (by omega) hb) | ((with_reducible refine st_up (w.heap.size + 1) _ (withDl s v) hq ?_ ?_ ?_); exact rfl; exact rfl; intro W hnew ho; replace hr := hr.only ho (by omega); replace hq := hnew; replace hb := ho.bel _ _ (by omega) hb))
  refine bodyPost_ret (results_cell_row Try.results22 _ _ (w.heap.size + 1) _ _ _ _ rfl hq Try.underlying29 rfl size_up) rfl ?_
  exact ⟨rfl, hb⟩

set_option maxHeartbeats 1000000 in
theorem wdata_no (s : U) (ok : s.Ok) (v : Nat) (hd : dlB s = false) (h0 : s.tx.n = 16) (w : World) :
    Calls Try.prog 22 #[.agg s.cells, .int .u8 (v : Nat)] w fun e w' => e = .returned (.agg (dataW s v).cells) ∧ Below w.heap.size w w' := by
  have HV : dataW s v = s := by unfold dataW; rw [hd, if_neg (by decide), if_pos h0]
  rw [HV]; clear HV
  have t0 : (s.tx.n == 16) = true := by simp [h0]
  clear h0
  have HD := hide (fun w => div_any s ok w)
  rw [hd] at HD
  have HF := hide (fun f w => full_any f w)
  go_enter Try.func22, Try.ntmps22
  go_wp2_with (first | ((with_reducible refine bx_up w.heap.size s ?_ ?_ ?_); exact rfl; exact rfl; intro W hr hb hz) | ((with_reducible refine al_up (w.heap.size + 1) ?_ ?_); exact hz.out; intro W hq hb' hz'; replace hr := hr.bl (hz.out ▸ hb'); replace hb := hb.trans (hb'.mono (by omega)); replace hz := hz') | ((with_reducible refine ld_up w.heap.size _ hr ?_ ?_ ?_); exact rfl; exact rfl) | (go_at_call 23; (with_reducible refine (HD.out _).mono ?_); rintro e W ⟨rfl, hbc⟩; replace hr := hr.bl hbc; replace hq := hq.bl hbc; replace hb := below_bl rfl hb hbc) | ((with_reducible refine ld_txp w.heap.size _ _ hr ?_ ?_ ?_); exact rfl; exact rfl) | (go_at_call 19; (with_reducible refine (HF.out _ _).mono ?_); rintro e W ⟨rfl, hbc⟩; replace hr := hr.bl hbc; replace hq := hq.bl hbc; replace hb := below_bl rfl hb hbc) | ((with_reducible refine st_up (w.heap.size + 1) _ s hq ?_ ?_ ?_); exact rfl; exact rfl; intro W hnew ho; replace hr := hr.only ho (by omega); replace hq := hnew; replace hb := ho.bel _ _ (by omega) hb))
  refine bodyPost_ret (results_cell_row Try.results22 _ _ (w.heap.size + 1) _ _ _ _ rfl hq Try.underlying29 rfl size_up) rfl ?_
  exact ⟨rfl, hb⟩

set_option maxHeartbeats 1000000 in
theorem wdata_yes (s : U) (ok : s.Ok) (v : Nat) (hd : dlB s = false) (h0 : 0 ≤ s.tx.n) (h1 : s.tx.n < 16) (w : World) :
    Calls Try.prog 22 #[.agg s.cells, .int .u8 (v : Nat)] w fun e w' => e = .returned (.agg (dataW s v).cells) ∧ Below w.heap.size w w' := by
  have HV : dataW s v = withTx s (putF s.tx v) := by unfold dataW; rw [hd, if_neg (by decide), if_neg (by omega)]
  rw [HV]; clear HV
  have t0 : (s.tx.n == 16) = false := by simp; omega
  have HP := hide (fun w => put_any s.tx s.tx.n.toNat (by omega) (by omega) v w)
  clear h0 h1
  have HD := hide (fun w => div_any s ok w)
  rw [hd] at HD
  have HF := hide (fun f w => full_any f w)
  go_enter Try.func22, Try.ntmps22
  go_wp2_with (first | ((with_reducible refine bx_up w.heap.size s ?_ ?_ ?_); exact rfl; exact rfl; intro W hr hb hz) | ((with_reducible refine al_up (w.heap.size + 1) ?_ ?_); exact hz.out; intro W hq hb' hz'; replace hr := hr.bl (hz.out ▸ hb'); replace hb := hb.trans (hb'.mono (by omega)); replace hz := hz') | ((with_reducible refine ld_up w.heap.size _ hr ?_ ?_ ?_); exact rfl; exact rfl) | (go_at_call 23; (with_reducible refine (HD.out _).mono ?_); rintro e W ⟨rfl, hbc⟩; replace hr := hr.bl hbc; replace hq := hq.bl hbc; replace hb := below_bl rfl hb hbc) | ((with_reducible refine ld_txp w.heap.size _ _ hr ?_ ?_ ?_); exact rfl; exact rfl) | (go_at_call 19; (with_reducible refine (HF.out _ _).mono ?_); rintro e W ⟨rfl, hbc⟩; replace hr := hr.bl hbc; replace hq := hq.bl hbc; replace hb := below_bl rfl hb hbc) | (go_at_call 20; (with_reducible refine (HP.out _).mono ?_); rintro e W ⟨rfl, hbc⟩; replace hr := hr.bl hbc; replace hq := hq.bl hbc; replace hb := below_bl rfl hb hbc) | ((with_reducible refine st_txp w.heap.size _ (putF s.tx v) _ hr ?_ ?_ ?_); exact rfl; exact rfl; intro W hnew ho; replace hq := hq.only ho (by omega); replace hr := hnew; replace hb := ho.bel _ _ (by omega) hb) | ((with_reducible refine st_up (w.heap.size + 1) _ (withTx s (putF s.tx v)) hq ?_ ?_ ?_); exact rfl; exact rfl; intro W hnew ho; replace hr := hr.only ho (by omega); replace hq := hnew; replace hb := ho.bel _ _ (by omega) hb))
  refine bodyPost_ret (results_cell_row Try.results22 _ _ (w.heap.size + 1) _ _ _ _ rfl hq Try.underlying29 rfl size_up) rfl ?_
  exact ⟨rfl, hb⟩

theorem wdata_any (s : U) (ok : s.Ok) (v : Nat) (hm : mayF s.tx = true) (w : World) :
    Calls Try.prog 22 #[.agg s.cells, .int .u8 (v : Nat)] w fun e w' => e = .returned (.agg (dataW s v).cells) ∧ Below w.heap.size w w' := by
  have h0 := mayF.n0 hm
  have h1 := mayF.n16 hm
  cases hd : dlB s with
  | true => exact wdata_dl s ok v hd w
  | false =>
    by_cases h : s.tx.n = 16
    · exact wdata_no s ok v hd h w
    · exact wdata_yes s ok v hd h0 (by omega) w
end Go.Proofs.Ythopfecjnbfnmaa
