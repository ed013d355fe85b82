/-
  What uart's Read answers.
-/
import Derived.Test.YthopfecjnbfnmaaUaCheck
import Derived.Test.YthopfecjnbfnmaaUaData
namespace Go.Proofs.Ythopfecjnbfnmaa
open Go.RowKit
set_option linter.unusedVariables false

set_option maxHeartbeats 1000000 in
theorem read_no (s : U) (ok : s.Ok) (a : Nat) (hm : mayU s = false) (w : World) :
    Calls Try.prog 13 #[.agg s.cells, .int .u32 (a : Nat)] w fun e w' => e = .returned (.tuple #[.agg (readV s a).1.cells, .int .u8 ((readV s a).2.1 : Nat), errP (readV s a).2.2]) ∧ Below w.heap.size w w' := by
  have HV : readV s a = (zeroU, 0, 1) := by unfold readV; rw [hm, if_neg (by decide)]
  rw [HV]; clear HV
  have HC := hide (fun w => check_no s ok hm w)
  go_enter Try.func13, Try.ntmps13
  go_wp2_with (first | ((with_reducible refine bx_up w.heap.size s ?_ ?_ ?_); exact rfl; exact rfl; intro W hr hb hz) | ((with_reducible refine al_up (w.heap.size + 1) ?_ ?_); exact hz.out; intro W hq hb' hz'; replace hr := hr.bl (hz.out ▸ hb'); replace hb := hb.trans (hb'.mono (by omega)); replace hz := hz') | ((with_reducible refine ld_up w.heap.size _ hr ?_ ?_ ?_); exact rfl; exact rfl) | (go_at_call 14; (with_reducible refine (HC.out _).mono ?_); rintro e W ⟨rfl, hbc⟩; replace hr := hr.bl hbc; replace hq := hq.bl hbc; replace hb := below_bl rfl hb hbc) | ((with_reducible refine st_up (w.heap.size + 1) _ zeroU hq ?_ ?_ ?_); exact rfl; exact rfl; intro W hnew ho; replace hr := hr.only ho (by omega); replace hq := hnew; replace hb := ho.bel _ _ (by omega) hb))
  refine bodyPost_ret (results_cell_two Try.results13 _ _ (w.heap.size + 1) _ _ _ rfl hq Try.underlying29 rfl size_up) rfl ?_
  exact ⟨rfl, hb⟩

set_option maxHeartbeats 1000000 in
theorem read_0 (s : U) (ok : s.Ok) (hm : mayU s = true) (w : World) :
    Calls Try.prog 13 #[.agg s.cells, .int .u32 ((0 : Nat) : Int)] w fun e w' => e = .returned (.tuple #[.agg (readV s 0).1.cells, .int .u8 ((readV s 0).2.1 : Nat), errP (readV s 0).2.2]) ∧ Below w.heap.size w w' := by
  rw [show (((0 : Nat) : Int)) = 0 from rfl]
  have HV : readV s 0 = ((dataS s).1, (dataS s).2, 0) := by unfold readV readS; rw [if_pos hm, if_pos rfl]
  rw [HV]; clear HV
  have HC := hide (fun w => check_ok s ok hm w)
  have HD := hide (fun w => rdata_any s ok ((mayU_iff s).1 hm).rx w)
  generalize dataS s = zb at HD ⊢
  obtain ⟨z, v⟩ := zb
  simp only at HD ⊢
  go_enter Try.func13, Try.ntmps13
  go_wp2_with (first | ((with_reducible refine bx_up w.heap.size s ?_ ?_ ?_); exact rfl; exact rfl; intro W hr hb hz) | ((with_reducible refine al_up (w.heap.size + 1) ?_ ?_); exact hz.out; intro W hq hb' hz'; replace hr := hr.bl (hz.out ▸ hb'); replace hb := hb.trans (hb'.mono (by omega)); replace hz := hz') | ((with_reducible refine ld_up w.heap.size s hr ?_ ?_ ?_); exact rfl; exact rfl) | (go_at_call 14; (with_reducible refine (HC.out _).mono ?_); rintro e W ⟨rfl, hbc⟩; replace hr := hr.bl hbc; replace hq := hq.bl hbc; replace hb := below_bl rfl hb hbc) | (go_at_call 25; (with_reducible refine (HD.out _).mono ?_); rintro e W ⟨rfl, hbc⟩; replace hr := hr.bl hbc; replace hq := hq.bl hbc; obtain ⟨NX, hNX⟩ : ∃ n, W.heap.size = n := ⟨_, rfl⟩; have lNX : w.heap.size + 2 ≤ NX := (by (have := hq.lt; omega)); replace hNX := hide hNX; replace hb := below_bl rfl hb hbc) | ((with_reducible refine al_up NX ?_ ?_); exact hNX.out; intro W hx hb' hz2; replace hr := hr.bl (hNX.out ▸ hb'); replace hq := hq.bl (hNX.out ▸ hb'); replace hb := hb.trans (hb'.mono (by omega))) | ((with_reducible refine st_up NX _ z hx ?_ ?_ ?_); exact rfl; exact rfl; intro W hnew ho; replace hr := hr.only ho (by omega); replace hq := hq.only ho (by omega); replace hx := hnew; replace hb := ho.bel _ _ (by omega) hb) | ((with_reducible refine ld_up NX z hx ?_ ?_ ?_); exact rfl; exact rfl) | ((with_reducible refine st_up (w.heap.size + 1) _ z hq ?_ ?_ ?_); exact rfl; exact rfl; intro W hnew ho; replace hr := hr.only ho (by omega); replace hx := hx.only ho (by omega); replace hq := hnew; replace hb := ho.bel _ _ (by omega) hb))
  refine bodyPost_ret (results_cell_two Try.results13 _ _ (w.heap.size + 1) _ _ _ rfl hq Try.underlying29 rfl size_up) rfl ?_
  exact ⟨rfl, hb⟩

set_option maxHeartbeats 1000000 in
theorem read_1t (s : U) (ok : s.Ok) (hm : mayU s = true) (hd : dlB s = true) (w : World) :
    Calls Try.prog 13 #[.agg s.cells, .int .u32 ((1 : Nat) : Int)] w fun e w' => e = .returned (.tuple #[.agg (readV s 1).1.cells, .int .u8 ((readV s 1).2.1 : Nat), errP (readV s 1).2.2]) ∧ Below w.heap.size w w' := by
  rw [show (((1 : Nat) : Int)) = 1 from rfl]
  have HV : readV s 1 = (s, s.dm, 0) := by unfold readV readS; rw [if_pos hm, if_neg (by decide), if_pos rfl]; rw [if_pos hd]
  rw [HV]; clear HV
  have HC := hide (fun w => check_ok s ok hm w)
  have HD := hide (fun w => div_any s ok w)
  rw [hd] at HD
  go_enter Try.func13, Try.ntmps13
  go_wp2_with (first | ((with_reducible refine bx_up w.heap.size s ?_ ?_ ?_); exact rfl; exact rfl; intro W hr hb hz) | ((with_reducible refine al_up (w.heap.size + 1) ?_ ?_); exact hz.out; intro W hq hb' hz'; replace hr := hr.bl (hz.out ▸ hb'); replace hb := hb.trans (hb'.mono (by omega)); replace hz := hz') | ((with_reducible refine ld_up w.heap.size _ hr ?_ ?_ ?_); exact rfl; exact rfl) | (go_at_call 14; (with_reducible refine (HC.out _).mono ?_); rintro e W ⟨rfl, hbc⟩; replace hr := hr.bl hbc; replace hq := hq.bl hbc; replace hb := below_bl rfl hb hbc) | (go_at_call 23; (with_reducible refine (HD.out _).mono ?_); rintro e W ⟨rfl, hbc⟩; replace hr := hr.bl hbc; replace hq := hq.bl hbc; replace hb := below_bl rfl hb hbc))
  refine wp_region_held_drew (S := (fun V => RowAt V w.heap.size s.cells 29 ∧ Below w.heap.size w V)) (by kernel_rfl) ?_ (fun hHeld => ?_)
  · exact ⟨hr.dr, hb.drew⟩
  replace hq := hq.dr
  generalize W.drew = V at hHeld hq ⊢
  clear hr hb
  refine wpAnyH_take (i := 0) (oi := ?oi6) (v := .agg s.cells) ?hi6 (by kernel_rfl) (by kernel_rfl) (by kernel_rfl) ?hQ6 ?hy6 (by assumption) ?rest6
  case hi6 => (simp only [List.getElem?_toArray, List.getElem?_cons_zero]; rfl)
  case hQ6 => exact fun _ _ _ h => h
  case hy6 => exact y_up w.heap.size s (fun V hV => hV.1) rfl rfl
  simp only [Act.put, List.setIfInBounds_toArray, List.set_cons_zero, List.set_cons_succ]
  refine wpAnyH_take (i := 1) (oi := ?oi7) (v := .pointer (some ⟨w.heap.size, 39, none⟩)) ?hi7 (by kernel_rfl) (by kernel_rfl) (by kernel_rfl) ?hQ7 ?hy7 (by assumption) ?rest7
  case hi7 => (simp only [List.getElem?_toArray, List.getElem?_cons_zero, List.getElem?_cons_succ]; rfl)
  case hQ7 => exact fun _ _ _ h => h
  case hy7 => exact Or.inl ⟨by rfl, by (intro w hSw; (try dsimp only at hSw); go_simp )⟩
  simp only [Act.put, List.setIfInBounds_toArray, List.set_cons_zero, List.set_cons_succ]
  refine wpAnyH_take (i := 2) (oi := ?oi8) (v := .int .u8 (s.dm : Nat)) ?hi8 (by kernel_rfl) (by kernel_rfl) (by kernel_rfl) ?hQ8 ?hy8 (by assumption) ?rest8
  case hi8 => (simp only [List.getElem?_toArray, List.getElem?_cons_zero, List.getElem?_cons_succ]; rfl)
  case hQ8 => exact fun _ _ _ h => h
  case hy8 => exact y_dm w.heap.size s _ (fun V hV => hV.1) rfl
  simp only [Act.put, List.setIfInBounds_toArray, List.set_cons_zero, List.set_cons_succ]
  refine wpAnyH_ready (rs := [3]) (by kernel_rfl) (by simp) ?_
  refine AllReadyH.cons (o := ?oi9) ?hi9 (fun K hK => ?_) AllReadyH.nil
  case hi9 => (simp only [List.getElem?_toArray, List.getElem?_cons_zero, List.getElem?_cons_succ]; rfl)
  rw [if_pos (by rfl)]
  (with_reducible refine s_up (w.heap.size + 1) _ s hq ?_ ?_ ?_)
  · exact rfl
  · exact rfl
  intro V hnew ho
  have hH2 := hide (And.intro (hHeld.1.only ho (by omega)) (ho.bel _ _ (by omega) hHeld.2))
  replace hq := hnew
  clear hHeld hnew ho
  refine hK.out _ _ ?_ (fun hHeld => ?_)
  · exact hH2.out
  clear hK K
  clear hH2
  refine wpAnyH_take (i := 4) (oi := ?oi10) (v := .int .u8 (s.dm : Nat)) ?hi10 (by kernel_rfl) (by kernel_rfl) (by kernel_rfl) ?hQ10 ?hy10 (by assumption) ?rest10
  case hi10 => (simp only [List.getElem?_toArray, List.getElem?_cons_zero, List.getElem?_cons_succ]; rfl)
  case hQ10 => exact fun _ _ _ h => h
  case hy10 => exact Or.inl ⟨by rfl, by (intro w hSw; (try dsimp only at hSw); go_simp )⟩
  simp only [Act.put, List.setIfInBounds_toArray, List.set_cons_zero, List.set_cons_succ]
  refine wpAnyH_take (i := 5) (oi := ?oi11) (v := .nilIface) ?hi11 (by kernel_rfl) (by kernel_rfl) (by kernel_rfl) ?hQ11 ?hy11 (by assumption) ?rest11
  case hi11 => (simp only [List.getElem?_toArray, List.getElem?_cons_zero, List.getElem?_cons_succ]; rfl)
  case hQ11 => exact fun _ _ _ h => h
  case hy11 => exact Or.inl ⟨by rfl, by (intro w hSw; (try dsimp only at hSw); go_simp )⟩
  simp only [Act.put, List.setIfInBounds_toArray, List.set_cons_zero, List.set_cons_succ]
  refine wpAnyH_done (by kernel_rfl) ?_ _
  have hr := hHeld.1
  have hb := hHeld.2
  clear hHeld
  go_wp2
  refine bodyPost_ret (results_cell_two Try.results13 _ _ (w.heap.size + 1) _ _ _ rfl hq Try.underlying29 rfl size_up) rfl ?_
  exact ⟨rfl, hb⟩

set_option maxHeartbeats 1000000 in
theorem read_1f (s : U) (ok : s.Ok) (hm : mayU s = true) (hd : dlB s = false) (w : World) :
    Calls Try.prog 13 #[.agg s.cells, .int .u32 ((1 : Nat) : Int)] w fun e w' => e = .returned (.tuple #[.agg (readV s 1).1.cells, .int .u8 ((readV s 1).2.1 : Nat), errP (readV s 1).2.2]) ∧ Below w.heap.size w w' := by
  rw [show (((1 : Nat) : Int)) = 1 from rfl]
  have HV : readV s 1 = (s, s.ie, 0) := by unfold readV readS; rw [if_pos hm, if_neg (by decide), if_pos rfl]; rw [hd, if_neg (by decide)]
  rw [HV]; clear HV
  have HC := hide (fun w => check_ok s ok hm w)
  have HD := hide (fun w => div_any s ok w)
  rw [hd] at HD
  go_enter Try.func13, Try.ntmps13
  go_wp2_with (first | ((with_reducible refine bx_up w.heap.size s ?_ ?_ ?_); exact rfl; exact rfl; intro W hr hb hz) | ((with_reducible refine al_up (w.heap.size + 1) ?_ ?_); exact hz.out; intro W hq hb' hz'; replace hr := hr.bl (hz.out ▸ hb'); replace hb := hb.trans (hb'.mono (by omega)); replace hz := hz') | ((with_reducible refine ld_up w.heap.size _ hr ?_ ?_ ?_); exact rfl; exact rfl) | (go_at_call 14; (with_reducible refine (HC.out _).mono ?_); rintro e W ⟨rfl, hbc⟩; replace hr := hr.bl hbc; replace hq := hq.bl hbc; replace hb := below_bl rfl hb hbc) | (go_at_call 23; (with_reducible refine (HD.out _).mono ?_); rintro e W ⟨rfl, hbc⟩; replace hr := hr.bl hbc; replace hq := hq.bl hbc; replace hb := below_bl rfl hb hbc))
  refine wp_region_held_drew (S := (fun V => RowAt V w.heap.size s.cells 29 ∧ Below w.heap.size w V)) (by kernel_rfl) ?_ (fun hHeld => ?_)
  · exact ⟨hr.dr, hb.drew⟩
  replace hq := hq.dr
  generalize W.drew = V at hHeld hq ⊢
  clear hr hb
  refine wpAnyH_take (i := 0) (oi := ?oi12) (v := .agg s.cells) ?hi12 (by kernel_rfl) (by kernel_rfl) (by kernel_rfl) ?hQ12 ?hy12 (by assumption) ?rest12
  case hi12 => (simp only [List.getElem?_toArray, List.getElem?_cons_zero]; rfl)
  case hQ12 => exact fun _ _ _ h => h
  case hy12 => exact y_up w.heap.size s (fun V hV => hV.1) rfl rfl
  simp only [Act.put, List.setIfInBounds_toArray, List.set_cons_zero, List.set_cons_succ]
  refine wpAnyH_take (i := 1) (oi := ?oi13) (v := .pointer (some ⟨w.heap.size, 34, none⟩)) ?hi13 (by kernel_rfl) (by kernel_rfl) (by kernel_rfl) ?hQ13 ?hy13 (by assumption) ?rest13
  case hi13 => (simp only [List.getElem?_toArray, List.getElem?_cons_zero, List.getElem?_cons_succ]; rfl)
  case hQ13 => exact fun _ _ _ h => h
  case hy13 => exact Or.inl ⟨by rfl, by (intro w hSw; (try dsimp only at hSw); go_simp )⟩
  simp only [Act.put, List.setIfInBounds_toArray, List.set_cons_zero, List.set_cons_succ]
  refine wpAnyH_take (i := 2) (oi := ?oi14) (v := .int .u8 (s.ie : Nat)) ?hi14 (by kernel_rfl) (by kernel_rfl) (by kernel_rfl) ?hQ14 ?hy14 (by assumption) ?rest14
  case hi14 => (simp only [List.getElem?_toArray, List.getElem?_cons_zero, List.getElem?_cons_succ]; rfl)
  case hQ14 => exact fun _ _ _ h => h
  case hy14 => exact y_ie w.heap.size s _ (fun V hV => hV.1) rfl
  simp only [Act.put, List.setIfInBounds_toArray, List.set_cons_zero, List.set_cons_succ]
  refine wpAnyH_ready (rs := [3]) (by kernel_rfl) (by simp) ?_
  refine AllReadyH.cons (o := ?oi15) ?hi15 (fun K hK => ?_) AllReadyH.nil
  case hi15 => (simp only [List.getElem?_toArray, List.getElem?_cons_zero, List.getElem?_cons_succ]; rfl)
  rw [if_pos (by rfl)]
  (with_reducible refine s_up (w.heap.size + 1) _ s hq ?_ ?_ ?_)
  · exact rfl
  · exact rfl
  intro V hnew ho
  have hH2 := hide (And.intro (hHeld.1.only ho (by omega)) (ho.bel _ _ (by omega) hHeld.2))
  replace hq := hnew
  clear hHeld hnew ho
  refine hK.out _ _ ?_ (fun hHeld => ?_)
  · exact hH2.out
  clear hK K
  clear hH2
  refine wpAnyH_take (i := 4) (oi := ?oi16) (v := .int .u8 (s.ie : Nat)) ?hi16 (by kernel_rfl) (by kernel_rfl) (by kernel_rfl) ?hQ16 ?hy16 (by assumption) ?rest16
  case hi16 => (simp only [List.getElem?_toArray, List.getElem?_cons_zero, List.getElem?_cons_succ]; rfl)
  case hQ16 => exact fun _ _ _ h => h
  case hy16 => exact Or.inl ⟨by rfl, by (intro w hSw; (try dsimp only at hSw); go_simp )⟩
  simp only [Act.put, List.setIfInBounds_toArray, List.set_cons_zero, List.set_cons_succ]
  refine wpAnyH_take (i := 5) (oi := ?oi17) (v := .nilIface) ?hi17 (by kernel_rfl) (by kernel_rfl) (by kernel_rfl) ?hQ17 ?hy17 (by assumption) ?rest17
  case hi17 => (simp only [List.getElem?_toArray, List.getElem?_cons_zero, List.getElem?_cons_succ]; rfl)
  case hQ17 => exact fun _ _ _ h => h
  case hy17 => exact Or.inl ⟨by rfl, by (intro w hSw; (try dsimp only at hSw); go_simp )⟩
  simp only [Act.put, List.setIfInBounds_toArray, List.set_cons_zero, List.set_cons_succ]
  refine wpAnyH_done (by kernel_rfl) ?_ _
  have hr := hHeld.1
  have hb := hHeld.2
  clear hHeld
  go_wp2
  refine bodyPost_ret (results_cell_two Try.results13 _ _ (w.heap.size + 1) _ _ _ rfl hq Try.underlying29 rfl size_up) rfl ?_
  exact ⟨rfl, hb⟩

set_option maxHeartbeats 1000000 in
theorem read_3 (s : U) (ok : s.Ok) (hm : mayU s = true) (w : World) :
    Calls Try.prog 13 #[.agg s.cells, .int .u32 ((3 : Nat) : Int)] w fun e w' => e = .returned (.tuple #[.agg (readV s 3).1.cells, .int .u8 ((readV s 3).2.1 : Nat), errP (readV s 3).2.2]) ∧ Below w.heap.size w w' := by
  rw [show (((3 : Nat) : Int)) = 3 from rfl]
  have HV : readV s 3 = (s, s.lc, 0) := by unfold readV readS; rw [if_pos hm, if_neg (by decide), if_neg (by decide), if_neg (by decide), if_pos rfl]
  rw [HV]; clear HV
  have HC := hide (fun w => check_ok s ok hm w)
  go_enter Try.func13, Try.ntmps13
  go_wp2_with (first | ((with_reducible refine bx_up w.heap.size s ?_ ?_ ?_); exact rfl; exact rfl; intro W hr hb hz) | ((with_reducible refine al_up (w.heap.size + 1) ?_ ?_); exact hz.out; intro W hq hb' hz'; replace hr := hr.bl (hz.out ▸ hb'); replace hb := hb.trans (hb'.mono (by omega)); replace hz := hz') | ((with_reducible refine ld_up w.heap.size _ hr ?_ ?_ ?_); exact rfl; exact rfl) | (go_at_call 14; (with_reducible refine (HC.out _).mono ?_); rintro e W ⟨rfl, hbc⟩; replace hr := hr.bl hbc; replace hq := hq.bl hbc; replace hb := below_bl rfl hb hbc))
  refine wp_region_held_drew (S := (fun V => RowAt V w.heap.size s.cells 29 ∧ Below w.heap.size w V)) (by kernel_rfl) ?_ (fun hHeld => ?_)
  · exact ⟨hr.dr, hb.drew⟩
  replace hq := hq.dr
  generalize W.drew = V at hHeld hq ⊢
  clear hr hb
  refine wpAnyH_take (i := 0) (oi := ?oi18) (v := .agg s.cells) ?hi18 (by kernel_rfl) (by kernel_rfl) (by kernel_rfl) ?hQ18 ?hy18 (by assumption) ?rest18
  case hi18 => (simp only [List.getElem?_toArray, List.getElem?_cons_zero]; rfl)
  case hQ18 => exact fun _ _ _ h => h
  case hy18 => exact y_up w.heap.size s (fun V hV => hV.1) rfl rfl
  simp only [Act.put, List.setIfInBounds_toArray, List.set_cons_zero, List.set_cons_succ]
  refine wpAnyH_take (i := 1) (oi := ?oi19) (v := .pointer (some ⟨w.heap.size, 35, none⟩)) ?hi19 (by kernel_rfl) (by kernel_rfl) (by kernel_rfl) ?hQ19 ?hy19 (by assumption) ?rest19
  case hi19 => (simp only [List.getElem?_toArray, List.getElem?_cons_zero, List.getElem?_cons_succ]; rfl)
  case hQ19 => exact fun _ _ _ h => h
  case hy19 => exact Or.inl ⟨by rfl, by (intro w hSw; (try dsimp only at hSw); go_simp )⟩
  simp only [Act.put, List.setIfInBounds_toArray, List.set_cons_zero, List.set_cons_succ]
  refine wpAnyH_take (i := 2) (oi := ?oi20) (v := .int .u8 (s.lc : Nat)) ?hi20 (by kernel_rfl) (by kernel_rfl) (by kernel_rfl) ?hQ20 ?hy20 (by assumption) ?rest20
  case hi20 => (simp only [List.getElem?_toArray, List.getElem?_cons_zero, List.getElem?_cons_succ]; rfl)
  case hQ20 => exact fun _ _ _ h => h
  case hy20 => exact y_lc w.heap.size s _ (fun V hV => hV.1) rfl
  simp only [Act.put, List.setIfInBounds_toArray, List.set_cons_zero, List.set_cons_succ]
  refine wpAnyH_ready (rs := [3]) (by kernel_rfl) (by simp) ?_
  refine AllReadyH.cons (o := ?oi21) ?hi21 (fun K hK => ?_) AllReadyH.nil
  case hi21 => (simp only [List.getElem?_toArray, List.getElem?_cons_zero, List.getElem?_cons_succ]; rfl)
  rw [if_pos (by rfl)]
  (with_reducible refine s_up (w.heap.size + 1) _ s hq ?_ ?_ ?_)
  · exact rfl
  · exact rfl
  intro V hnew ho
  have hH2 := hide (And.intro (hHeld.1.only ho (by omega)) (ho.bel _ _ (by omega) hHeld.2))
  replace hq := hnew
  clear hHeld hnew ho
  refine hK.out _ _ ?_ (fun hHeld => ?_)
  · exact hH2.out
  clear hK K
  clear hH2
  refine wpAnyH_take (i := 4) (oi := ?oi22) (v := .int .u8 (s.lc : Nat)) ?hi22 (by kernel_rfl) (by kernel_rfl) (by kernel_rfl) ?hQ22 ?hy22 (by assumption) ?rest22
  case hi22 => (simp only [List.getElem?_toArray, List.getElem?_cons_zero, List.getElem?_cons_succ]; rfl)
  case hQ22 => exact fun _ _ _ h => h
  case hy22 => exact Or.inl ⟨by rfl, by (intro w hSw; (try dsimp only at hSw); go_simp )⟩
  simp only [Act.put, List.setIfInBounds_toArray, List.set_cons_zero, List.set_cons_succ]
  refine wpAnyH_take (i := 5) (oi := ?oi23) (v := .nilIface) ?hi23 (by kernel_rfl) (by kernel_rfl) (by kernel_rfl) ?hQ23 ?hy23 (by assumption) ?rest23
  case hi23 => (simp only [List.getElem?_toArray, List.getElem?_cons_zero, List.getElem?_cons_succ]; rfl)
  case hQ23 => exact fun _ _ _ h => h
  case hy23 => exact Or.inl ⟨by rfl, by (intro w hSw; (try dsimp only at hSw); go_simp )⟩
  simp only [Act.put, List.setIfInBounds_toArray, List.set_cons_zero, List.set_cons_succ]
  refine wpAnyH_done (by kernel_rfl) ?_ _
  have hr := hHeld.1
  have hb := hHeld.2
  clear hHeld
  go_wp2
  refine bodyPost_ret (results_cell_two Try.results13 _ _ (w.heap.size + 1) _ _ _ rfl hq Try.underlying29 rfl size_up) rfl ?_
  exact ⟨rfl, hb⟩

set_option maxHeartbeats 1000000 in
theorem read_4 (s : U) (ok : s.Ok) (hm : mayU s = true) (w : World) :
    Calls Try.prog 13 #[.agg s.cells, .int .u32 ((4 : Nat) : Int)] w fun e w' => e = .returned (.tuple #[.agg (readV s 4).1.cells, .int .u8 ((readV s 4).2.1 : Nat), errP (readV s 4).2.2]) ∧ Below w.heap.size w w' := by
  rw [show (((4 : Nat) : Int)) = 4 from rfl]
  have HV : readV s 4 = (s, s.mc, 0) := by unfold readV readS; rw [if_pos hm, if_neg (by decide), if_neg (by decide), if_neg (by decide), if_neg (by decide), if_pos rfl]
  rw [HV]; clear HV
  have HC := hide (fun w => check_ok s ok hm w)
  go_enter Try.func13, Try.ntmps13
  go_wp2_with (first | ((with_reducible refine bx_up w.heap.size s ?_ ?_ ?_); exact rfl; exact rfl; intro W hr hb hz) | ((with_reducible refine al_up (w.heap.size + 1) ?_ ?_); exact hz.out; intro W hq hb' hz'; replace hr := hr.bl (hz.out ▸ hb'); replace hb := hb.trans (hb'.mono (by omega)); replace hz := hz') | ((with_reducible refine ld_up w.heap.size _ hr ?_ ?_ ?_); exact rfl; exact rfl) | (go_at_call 14; (with_reducible refine (HC.out _).mono ?_); rintro e W ⟨rfl, hbc⟩; replace hr := hr.bl hbc; replace hq := hq.bl hbc; replace hb := below_bl rfl hb hbc))
  refine wp_region_held_drew (S := (fun V => RowAt V w.heap.size s.cells 29 ∧ Below w.heap.size w V)) (by kernel_rfl) ?_ (fun hHeld => ?_)
  · exact ⟨hr.dr, hb.drew⟩
  replace hq := hq.dr
  generalize W.drew = V at hHeld hq ⊢
  clear hr hb
  refine wpAnyH_take (i := 0) (oi := ?oi24) (v := .agg s.cells) ?hi24 (by kernel_rfl) (by kernel_rfl) (by kernel_rfl) ?hQ24 ?hy24 (by assumption) ?rest24
  case hi24 => (simp only [List.getElem?_toArray, List.getElem?_cons_zero]; rfl)
  case hQ24 => exact fun _ _ _ h => h
  case hy24 => exact y_up w.heap.size s (fun V hV => hV.1) rfl rfl
  simp only [Act.put, List.setIfInBounds_toArray, List.set_cons_zero, List.set_cons_succ]
  refine wpAnyH_take (i := 1) (oi := ?oi25) (v := .pointer (some ⟨w.heap.size, 36, none⟩)) ?hi25 (by kernel_rfl) (by kernel_rfl) (by kernel_rfl) ?hQ25 ?hy25 (by assumption) ?rest25
  case hi25 => (simp only [List.getElem?_toArray, List.getElem?_cons_zero, List.getElem?_cons_succ]; rfl)
  case hQ25 => exact fun _ _ _ h => h
  case hy25 => exact Or.inl ⟨by rfl, by (intro w hSw; (try dsimp only at hSw); go_simp )⟩
  simp only [Act.put, List.setIfInBounds_toArray, List.set_cons_zero, List.set_cons_succ]
  refine wpAnyH_take (i := 2) (oi := ?oi26) (v := .int .u8 (s.mc : Nat)) ?hi26 (by kernel_rfl) (by kernel_rfl) (by kernel_rfl) ?hQ26 ?hy26 (by assumption) ?rest26
  case hi26 => (simp only [List.getElem?_toArray, List.getElem?_cons_zero, List.getElem?_cons_succ]; rfl)
  case hQ26 => exact fun _ _ _ h => h
  case hy26 => exact y_mc w.heap.size s _ (fun V hV => hV.1) rfl
  simp only [Act.put, List.setIfInBounds_toArray, List.set_cons_zero, List.set_cons_succ]
  refine wpAnyH_ready (rs := [3]) (by kernel_rfl) (by simp) ?_
  refine AllReadyH.cons (o := ?oi27) ?hi27 (fun K hK => ?_) AllReadyH.nil
  case hi27 => (simp only [List.getElem?_toArray, List.getElem?_cons_zero, List.getElem?_cons_succ]; rfl)
  rw [if_pos (by rfl)]
  (with_reducible refine s_up (w.heap.size + 1) _ s hq ?_ ?_ ?_)
  · exact rfl
  · exact rfl
  intro V hnew ho
  have hH2 := hide (And.intro (hHeld.1.only ho (by omega)) (ho.bel _ _ (by omega) hHeld.2))
  replace hq := hnew
  clear hHeld hnew ho
  refine hK.out _ _ ?_ (fun hHeld => ?_)
  · exact hH2.out
  clear hK K
  clear hH2
  refine wpAnyH_take (i := 4) (oi := ?oi28) (v := .int .u8 (s.mc : Nat)) ?hi28 (by kernel_rfl) (by kernel_rfl) (by kernel_rfl) ?hQ28 ?hy28 (by assumption) ?rest28
  case hi28 => (simp only [List.getElem?_toArray, List.getElem?_cons_zero, List.getElem?_cons_succ]; rfl)
  case hQ28 => exact fun _ _ _ h => h
  case hy28 => exact Or.inl ⟨by rfl, by (intro w hSw; (try dsimp only at hSw); go_simp )⟩
  simp only [Act.put, List.setIfInBounds_toArray, List.set_cons_zero, List.set_cons_succ]
  refine wpAnyH_take (i := 5) (oi := ?oi29) (v := .nilIface) ?hi29 (by kernel_rfl) (by kernel_rfl) (by kernel_rfl) ?hQ29 ?hy29 (by assumption) ?rest29
  case hi29 => (simp only [List.getElem?_toArray, List.getElem?_cons_zero, List.getElem?_cons_succ]; rfl)
  case hQ29 => exact fun _ _ _ h => h
  case hy29 => exact Or.inl ⟨by rfl, by (intro w hSw; (try dsimp only at hSw); go_simp )⟩
  simp only [Act.put, List.setIfInBounds_toArray, List.set_cons_zero, List.set_cons_succ]
  refine wpAnyH_done (by kernel_rfl) ?_ _
  have hr := hHeld.1
  have hb := hHeld.2
  clear hHeld
  go_wp2
  refine bodyPost_ret (results_cell_two Try.results13 _ _ (w.heap.size + 1) _ _ _ rfl hq Try.underlying29 rfl size_up) rfl ?_
  exact ⟨rfl, hb⟩

set_option maxHeartbeats 1000000 in
theorem read_7 (s : U) (ok : s.Ok) (hm : mayU s = true) (w : World) :
    Calls Try.prog 13 #[.agg s.cells, .int .u32 ((7 : Nat) : Int)] w fun e w' => e = .returned (.tuple #[.agg (readV s 7).1.cells, .int .u8 ((readV s 7).2.1 : Nat), errP (readV s 7).2.2]) ∧ Below w.heap.size w w' := by
  rw [show (((7 : Nat) : Int)) = 7 from rfl]
  have HV : readV s 7 = (s, s.sc, 0) := by unfold readV readS; rw [if_pos hm, if_neg (by decide), if_neg (by decide), if_neg (by decide), if_neg (by decide), if_neg (by decide), if_neg (by decide), if_neg (by decide), if_pos rfl]
  rw [HV]; clear HV
  have HC := hide (fun w => check_ok s ok hm w)
  go_enter Try.func13, Try.ntmps13
  go_wp2_with (first | ((with_reducible refine bx_up w.heap.size s ?_ ?_ ?_); exact rfl; exact rfl; intro W hr hb hz) | ((with_reducible refine al_up (w.heap.size + 1) ?_ ?_); exact hz.out; intro W hq hb' hz'; replace hr := hr.bl (hz.out ▸ hb'); replace hb := hb.trans (hb'.mono (by omega)); replace hz := hz') | ((with_reducible refine ld_up w.heap.size _ hr ?_ ?_ ?_); exact rfl; exact rfl) | (go_at_call 14; (with_reducible refine (HC.out _).mono ?_); rintro e W ⟨rfl, hbc⟩; replace hr := hr.bl hbc; replace hq := hq.bl hbc; replace hb := below_bl rfl hb hbc))
  refine wp_region_held_drew (S := (fun V => RowAt V w.heap.size s.cells 29 ∧ Below w.heap.size w V)) (by kernel_rfl) ?_ (fun hHeld => ?_)
  · exact ⟨hr.dr, hb.drew⟩
  replace hq := hq.dr
  generalize W.drew = V at hHeld hq ⊢
  clear hr hb
  refine wpAnyH_take (i := 0) (oi := ?oi30) (v := .agg s.cells) ?hi30 (by kernel_rfl) (by kernel_rfl) (by kernel_rfl) ?hQ30 ?hy30 (by assumption) ?rest30
  case hi30 => (simp only [List.getElem?_toArray, List.getElem?_cons_zero]; rfl)
  case hQ30 => exact fun _ _ _ h => h
  case hy30 => exact y_up w.heap.size s (fun V hV => hV.1) rfl rfl
  simp only [Act.put, List.setIfInBounds_toArray, List.set_cons_zero, List.set_cons_succ]
  refine wpAnyH_take (i := 1) (oi := ?oi31) (v := .pointer (some ⟨w.heap.size, 37, none⟩)) ?hi31 (by kernel_rfl) (by kernel_rfl) (by kernel_rfl) ?hQ31 ?hy31 (by assumption) ?rest31
  case hi31 => (simp only [List.getElem?_toArray, List.getElem?_cons_zero, List.getElem?_cons_succ]; rfl)
  case hQ31 => exact fun _ _ _ h => h
  case hy31 => exact Or.inl ⟨by rfl, by (intro w hSw; (try dsimp only at hSw); go_simp )⟩
  simp only [Act.put, List.setIfInBounds_toArray, List.set_cons_zero, List.set_cons_succ]
  refine wpAnyH_take (i := 2) (oi := ?oi32) (v := .int .u8 (s.sc : Nat)) ?hi32 (by kernel_rfl) (by kernel_rfl) (by kernel_rfl) ?hQ32 ?hy32 (by assumption) ?rest32
  case hi32 => (simp only [List.getElem?_toArray, List.getElem?_cons_zero, List.getElem?_cons_succ]; rfl)
  case hQ32 => exact fun _ _ _ h => h
  case hy32 => exact y_sc w.heap.size s _ (fun V hV => hV.1) rfl
  simp only [Act.put, List.setIfInBounds_toArray, List.set_cons_zero, List.set_cons_succ]
  refine wpAnyH_ready (rs := [3]) (by kernel_rfl) (by simp) ?_
  refine AllReadyH.cons (o := ?oi33) ?hi33 (fun K hK => ?_) AllReadyH.nil
  case hi33 => (simp only [List.getElem?_toArray, List.getElem?_cons_zero, List.getElem?_cons_succ]; rfl)
  rw [if_pos (by rfl)]
  (with_reducible refine s_up (w.heap.size + 1) _ s hq ?_ ?_ ?_)
  · exact rfl
  · exact rfl
  intro V hnew ho
  have hH2 := hide (And.intro (hHeld.1.only ho (by omega)) (ho.bel _ _ (by omega) hHeld.2))
  replace hq := hnew
  clear hHeld hnew ho
  refine hK.out _ _ ?_ (fun hHeld => ?_)
  · exact hH2.out
  clear hK K
  clear hH2
  refine wpAnyH_take (i := 4) (oi := ?oi34) (v := .int .u8 (s.sc : Nat)) ?hi34 (by kernel_rfl) (by kernel_rfl) (by kernel_rfl) ?hQ34 ?hy34 (by assumption) ?rest34
  case hi34 => (simp only [List.getElem?_toArray, List.getElem?_cons_zero, List.getElem?_cons_succ]; rfl)
  case hQ34 => exact fun _ _ _ h => h
  case hy34 => exact Or.inl ⟨by rfl, by (intro w hSw; (try dsimp only at hSw); go_simp )⟩
  simp only [Act.put, List.setIfInBounds_toArray, List.set_cons_zero, List.set_cons_succ]
  refine wpAnyH_take (i := 5) (oi := ?oi35) (v := .nilIface) ?hi35 (by kernel_rfl) (by kernel_rfl) (by kernel_rfl) ?hQ35 ?hy35 (by assumption) ?rest35
  case hi35 => (simp only [List.getElem?_toArray, List.getElem?_cons_zero, List.getElem?_cons_succ]; rfl)
  case hQ35 => exact fun _ _ _ h => h
  case hy35 => exact Or.inl ⟨by rfl, by (intro w hSw; (try dsimp only at hSw); go_simp )⟩
  simp only [Act.put, List.setIfInBounds_toArray, List.set_cons_zero, List.set_cons_succ]
  refine wpAnyH_done (by kernel_rfl) ?_ _
  have hr := hHeld.1
  have hb := hHeld.2
  clear hHeld
  go_wp2
  refine bodyPost_ret (results_cell_two Try.results13 _ _ (w.heap.size + 1) _ _ _ rfl hq Try.underlying29 rfl size_up) rfl ?_
  exact ⟨rfl, hb⟩

set_option maxHeartbeats 1000000 in
theorem read_5 (s : U) (ok : s.Ok) (hm : mayU s = true) (w : World) :
    Calls Try.prog 13 #[.agg s.cells, .int .u32 ((5 : Nat) : Int)] w fun e w' => e = .returned (.tuple #[.agg (readV s 5).1.cells, .int .u8 ((readV s 5).2.1 : Nat), errP (readV s 5).2.2]) ∧ Below w.heap.size w w' := by
  rw [show (((5 : Nat) : Int)) = 5 from rfl]
  have HV : readV s 5 = (withOv s false, statN s, 0) := by unfold readV readS; rw [if_pos hm, if_neg (by decide), if_neg (by decide), if_neg (by decide), if_neg (by decide), if_neg (by decide), if_pos rfl]
  rw [HV]; clear HV
  have HC := hide (fun w => check_ok s ok hm w)
  have HT := hide (fun w => stat_any s ok w)
  generalize statN s = v at HT ⊢
  go_enter Try.func13, Try.ntmps13
  go_wp2_with (first | ((with_reducible refine bx_up w.heap.size s ?_ ?_ ?_); exact rfl; exact rfl; intro W hr hb hz) | ((with_reducible refine al_up (w.heap.size + 1) ?_ ?_); exact hz.out; intro W hq hb' hz'; replace hr := hr.bl (hz.out ▸ hb'); replace hb := hb.trans (hb'.mono (by omega)); replace hz := hz') | ((with_reducible refine ld_up w.heap.size _ hr ?_ ?_ ?_); exact rfl; exact rfl) | (go_at_call 14; (with_reducible refine (HC.out _).mono ?_); rintro e W ⟨rfl, hbc⟩; replace hr := hr.bl hbc; replace hq := hq.bl hbc; replace hb := below_bl rfl hb hbc) | (go_at_call 27; (with_reducible refine (HT.out _).mono ?_); rintro e W ⟨rfl, hbc⟩; replace hr := hr.bl hbc; replace hq := hq.bl hbc; replace hb := below_bl rfl hb hbc) | ((with_reducible refine st_ov w.heap.size _ false _ hr ?_ ?_ ?_); exact rfl; exact rfl; intro W hnew ho; replace hq := hq.only ho (by omega); replace hr := hnew; replace hb := ho.bel _ _ (by omega) hb) | ((with_reducible refine st_up (w.heap.size + 1) _ (withOv s false) hq ?_ ?_ ?_); exact rfl; exact rfl; intro W hnew ho; replace hr := hr.only ho (by omega); replace hq := hnew; replace hb := ho.bel _ _ (by omega) hb))
  refine bodyPost_ret (results_cell_two Try.results13 _ _ (w.heap.size + 1) _ _ _ rfl hq Try.underlying29 rfl size_up) rfl ?_
  exact ⟨rfl, hb⟩

set_option maxHeartbeats 1000000 in
theorem read_6 (s : U) (ok : s.Ok) (hm : mayU s = true) (w : World) :
    Calls Try.prog 13 #[.agg s.cells, .int .u32 ((6 : Nat) : Int)] w fun e w' => e = .returned (.tuple #[.agg (readV s 6).1.cells, .int .u8 ((readV s 6).2.1 : Nat), errP (readV s 6).2.2]) ∧ Below w.heap.size w w' := by
  rw [show (((6 : Nat) : Int)) = 6 from rfl]
  have HV : readV s 6 = (s, 0, 0) := by unfold readV readS; rw [if_pos hm, if_neg (by decide), if_neg (by decide), if_neg (by decide), if_neg (by decide), if_neg (by decide), if_neg (by decide), if_pos rfl]
  rw [HV]; clear HV
  have HC := hide (fun w => check_ok s ok hm w)
  go_enter Try.func13, Try.ntmps13
  go_wp2_with (first | ((with_reducible refine bx_up w.heap.size s ?_ ?_ ?_); exact rfl; exact rfl; intro W hr hb hz) | ((with_reducible refine al_up (w.heap.size + 1) ?_ ?_); exact hz.out; intro W hq hb' hz'; replace hr := hr.bl (hz.out ▸ hb'); replace hb := hb.trans (hb'.mono (by omega)); replace hz := hz') | ((with_reducible refine ld_up w.heap.size _ hr ?_ ?_ ?_); exact rfl; exact rfl) | (go_at_call 14; (with_reducible refine (HC.out _).mono ?_); rintro e W ⟨rfl, hbc⟩; replace hr := hr.bl hbc; replace hq := hq.bl hbc; replace hb := below_bl rfl hb hbc) | ((with_reducible refine st_up (w.heap.size + 1) _ s hq ?_ ?_ ?_); exact rfl; exact rfl; intro W hnew ho; replace hr := hr.only ho (by omega); replace hq := hnew; replace hb := ho.bel _ _ (by omega) hb))
  refine bodyPost_ret (results_cell_two Try.results13 _ _ (w.heap.size + 1) _ _ _ rfl hq Try.underlying29 rfl size_up) rfl ?_
  exact ⟨rfl, hb⟩

set_option maxHeartbeats 1000000 in
theorem read_none (s : U) (ok : s.Ok) (a : Nat) (ha : 7 < a) (hm : mayU s = true) (w : World) :
    Calls Try.prog 13 #[.agg s.cells, .int .u32 (a : Nat)] w fun e w' => e = .returned (.tuple #[.agg (readV s a).1.cells, .int .u8 ((readV s a).2.1 : Nat), errP (readV s a).2.2]) ∧ Below w.heap.size w w' := by
  have HV : readV s a = (zeroU, 0, 20) := by unfold readV readS; rw [if_pos hm, if_neg (by omega), if_neg (by omega), if_neg (by omega), if_neg (by omega), if_neg (by omega), if_neg (by omega), if_neg (by omega), if_neg (by omega)]
  rw [HV]; clear HV
  have t0 : ((a : Int) == 0) = false := by simp; omega
  have t1 : ((a : Int) == 1) = false := by simp; omega
  have t2 : ((a : Int) == 2) = false := by simp; omega
  have t3 : ((a : Int) == 3) = false := by simp; omega
  have t4 : ((a : Int) == 4) = false := by simp; omega
  have t5 : ((a : Int) == 5) = false := by simp; omega
  have t6 : ((a : Int) == 6) = false := by simp; omega
  have t7 : ((a : Int) == 7) = false := by simp; omega
  have HC := hide (fun w => check_ok s ok hm w)
  go_enter Try.func13, Try.ntmps13
  go_wp2_with (first | ((with_reducible refine bx_up w.heap.size s ?_ ?_ ?_); exact rfl; exact rfl; intro W hr hb hz) | ((with_reducible refine al_up (w.heap.size + 1) ?_ ?_); exact hz.out; intro W hq hb' hz'; replace hr := hr.bl (hz.out ▸ hb'); replace hb := hb.trans (hb'.mono (by omega)); replace hz := hz') | ((with_reducible refine ld_up w.heap.size _ hr ?_ ?_ ?_); exact rfl; exact rfl) | (go_at_call 14; (with_reducible refine (HC.out _).mono ?_); rintro e W ⟨rfl, hbc⟩; replace hr := hr.bl hbc; replace hq := hq.bl hbc; replace hb := below_bl rfl hb hbc) | ((with_reducible refine st_up (w.heap.size + 1) _ zeroU hq ?_ ?_ ?_); exact rfl; exact rfl; intro W hnew ho; replace hr := hr.only ho (by omega); replace hq := hnew; replace hb := ho.bel _ _ (by omega) hb))
  refine bodyPost_ret (results_cell_two Try.results13 _ _ (w.heap.size + 1) _ _ _ rfl hq Try.underlying29 rfl size_up) rfl ?_
  exact ⟨rfl, hb⟩

end Go.Proofs.Ythopfecjnbfnmaa
