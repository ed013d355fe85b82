/-
  UartTicks, walked.
-/
import Derived.Test.YthopfecjnbfnmaaUaPut
import Derived.Test.YthopfecjnbfnmaaUaRPut
import Derived.Test.YthopfecjnbfnmaaUaRTick
import Derived.Test.YthopfecjnbfnmaaUaGive
import Derived.Test.YthopfecjnbfnmaaUaSure
namespace Go.Proofs.Ythopfecjnbfnmaa
open Go.RowKit
set_option linter.unusedVariables false

set_option maxRecDepth 20000 in
set_option maxHeartbeats 2000000 in
theorem ticks_walk (s : U) (ok : s.Ok) (c : Nat) (w : World) :
    Calls Try.prog 3 #[.agg s.cells, .int .u8 (c : Nat)] w fun e w' => e = .returned (.bool true) ∧ Below w.heap.size w w' := by
  have HG := hide (fun s w => give_any s w)
  have HB := hide (fun w => utick_any s ok w)
  have HRB := hide (fun w => rutick_any s ok w)
  have HP := hide (fun w => uput_any s ok c w)
  have HRP := hide (fun w => ruput_any s ok c w)
  have HS := hide (fun w => sure_any w)
  generalize putV s c = p at HP HRP
  generalize tickV s = zb at HB HRB
  obtain ⟨z, c1, b1⟩ := zb
  simp only at HB HRB
  go_enter Try.func3, Try.ntmps3
  go_wp2_with (first | ((with_reducible refine bx_ur w.heap.size s ?_ ?_ ?_); exact rfl; exact rfl; intro W hg hb hz) | ((with_reducible refine ld_ur w.heap.size s hg ?_ ?_ ?_); exact rfl; exact rfl) | (go_at_call 7; (with_reducible refine (HG.out _ _).mono ?_); rintro e W ⟨rfl, hbc⟩; replace hg := hg.bl hbc; replace hb := below_bl rfl hb hbc) | (go_at_call 6; (with_reducible refine (HB.out _).mono ?_); rintro e W ⟨rfl, hbc⟩; replace hg := hg.bl hbc; obtain ⟨NX, hNX⟩ : ∃ n, W.heap.size = n := ⟨_, rfl⟩; have lNX : w.heap.size + 1 ≤ NX := (by (have := hg.lt; omega)); replace hNX := hide hNX; replace hb := below_bl rfl hb hbc) | ((with_reducible refine al_up NX ?_ ?_); exact hNX.out; intro W hx hb' hz2; replace hg := hg.bl (hNX.out ▸ hb'); replace hb := hb.trans (hb'.mono (by omega))) | ((with_reducible refine st_up NX _ z hx ?_ ?_ ?_); exact rfl; exact rfl; intro W hnew ho; replace hg := hg.only ho (by omega); replace hx := hnew; replace hb := ho.bel _ _ (by omega) hb) | (go_at_call 8; (with_reducible refine (HRB.out _).mono ?_); rintro e W ⟨rfl, hbc⟩; replace hg := hg.bl hbc; replace hx := hx.bl hbc; obtain ⟨NY, hNY⟩ : ∃ n, W.heap.size = n := ⟨_, rfl⟩; have lNY : NX + 1 ≤ NY := (by (have := hx.lt; omega)); replace hNY := hide hNY; replace hb := below_bl rfl hb hbc) | ((with_reducible refine al_ur NY ?_ ?_); exact hNY.out; intro W hy hb' hz3; replace hg := hg.bl (hNY.out ▸ hb'); replace hx := hx.bl (hNY.out ▸ hb'); replace hb := hb.trans (hb'.mono (by omega))) | ((with_reducible refine st_ur NY _ z hy ?_ ?_ ?_); exact rfl; exact rfl; intro W hnew ho; replace hg := hg.only ho (by omega); replace hx := hx.only ho (by omega); replace hy := hnew; replace hb := ho.bel _ _ (by omega) hb))
  refine wp_region_held_drew (S := (fun V => RowAt V NX z.cells 29 ∧ RowAt V NY z.cells 26 ∧ RowAt V w.heap.size s.cells 26 ∧ Below w.heap.size w V)) (by kernel_rfl) ?_ (fun hHeld => ?_)
  · exact ⟨hx.dr, hy.dr, hg.dr, hb.drew⟩
  generalize W.drew = V at hHeld ⊢
  clear hx hg hy hb hz
  refine wpAnyH_take (i := 0) (oi := ?oi1) (v := .agg z.cells) ?hi1 (by kernel_rfl) (by kernel_rfl) (by kernel_rfl) ?hQ1 ?hy1 (by assumption) ?rest1
  case hi1 => (simp only [List.getElem?_toArray, List.getElem?_cons_zero]; rfl)
  case hQ1 => exact fun _ _ _ h => h
  case hy1 => exact y_up NX z (fun V hV => hV.1) rfl rfl
  simp only [Act.put, List.setIfInBounds_toArray, List.set_cons_zero, List.set_cons_succ]
  refine wpAnyH_take (i := 1) (oi := ?oi2) (v := .agg z.cells) ?hi2 (by kernel_rfl) (by kernel_rfl) (by kernel_rfl) ?hQ2 ?hy2 (by assumption) ?rest2
  case hi2 => (simp only [List.getElem?_toArray, List.getElem?_cons_zero, List.getElem?_cons_succ]; rfl)
  case hQ2 => exact fun _ _ _ h => h
  case hy2 => exact y_ur NY z (fun V hV => hV.2.1) rfl rfl
  simp only [Act.put, List.setIfInBounds_toArray, List.set_cons_zero, List.set_cons_succ]
  refine wpAnyH_ready (rs := [2]) (by kernel_rfl) (by simp) ?_
  refine AllReadyH.cons (o := ?oi3) ?hi3 (fun K hK => ?_) AllReadyH.nil
  case hi3 => (simp only [List.getElem?_toArray, List.getElem?_cons_zero, List.getElem?_cons_succ]; rfl)
  go_simp
  (with_reducible refine (HG.out _ _).mono ?_)
  rintro e V ⟨rfl, hbc⟩
  have hH2 := hide (And.intro (hHeld.1.bl hbc) (And.intro (hHeld.2.1.bl hbc) (And.intro (hHeld.2.2.1.bl hbc) (below_bl rfl hHeld.2.2.2 hbc))))
  clear hHeld hbc
  go_simp
  refine hK.out _ _ ?_ (fun hHeld => ?_)
  · exact hH2.out
  clear hK K
  clear hH2
  refine wpAnyH_take (i := 3) (oi := ?oi4) (v := .bool true) ?hi4 (by kernel_rfl) (by kernel_rfl) (by kernel_rfl) ?hQ4 ?hy4 (by assumption) ?rest4
  case hi4 => (simp only [List.getElem?_toArray, List.getElem?_cons_zero, List.getElem?_cons_succ]; rfl)
  case hQ4 => exact fun _ _ _ h => h
  case hy4 => exact y_equ z rfl rfl rfl
  simp only [Act.put, List.setIfInBounds_toArray, List.set_cons_zero, List.set_cons_succ]
  refine wpAnyH_take (i := 4) (oi := ?oi5) (v := .bool true) ?hi5 (by kernel_rfl) (by kernel_rfl) (by kernel_rfl) ?hQ5 ?hy5 (by assumption) ?rest5
  case hi5 => (simp only [List.getElem?_toArray, List.getElem?_cons_zero, List.getElem?_cons_succ]; rfl)
  case hQ5 => exact fun _ _ _ h => h
  case hy5 => exact Or.inl ⟨by rfl, by (intro w hSw; (try dsimp only at hSw); go_simp )⟩
  simp only [Act.put, List.setIfInBounds_toArray, List.set_cons_zero, List.set_cons_succ]
  refine wpAnyH_take (i := 5) (oi := ?oi6) (v := .int .u8 (c1 : Nat)) ?hi6 (by kernel_rfl) (by kernel_rfl) (by kernel_rfl) ?hQ6 ?hy6 (by assumption) ?rest6
  case hi6 => (simp only [List.getElem?_toArray, List.getElem?_cons_zero, List.getElem?_cons_succ]; rfl)
  case hQ6 => exact fun _ _ _ h => h
  case hy6 => exact Or.inl ⟨by rfl, by (intro w hSw; (try dsimp only at hSw); go_simp )⟩
  simp only [Act.put, List.setIfInBounds_toArray, List.set_cons_zero, List.set_cons_succ]
  refine wpAnyH_take (i := 6) (oi := ?oi7) (v := .int .u8 (c1 : Nat)) ?hi7 (by kernel_rfl) (by kernel_rfl) (by kernel_rfl) ?hQ7 ?hy7 (by assumption) ?rest7
  case hi7 => (simp only [List.getElem?_toArray, List.getElem?_cons_zero, List.getElem?_cons_succ]; rfl)
  case hQ7 => exact fun _ _ _ h => h
  case hy7 => exact Or.inl ⟨by rfl, by (intro w hSw; (try dsimp only at hSw); go_simp )⟩
  simp only [Act.put, List.setIfInBounds_toArray, List.set_cons_zero, List.set_cons_succ]
  refine wpAnyH_take (i := 7) (oi := ?oi8) (v := .bool true) ?hi8 (by kernel_rfl) (by kernel_rfl) (by kernel_rfl) ?hQ8 ?hy8 (by assumption) ?rest8
  case hi8 => (simp only [List.getElem?_toArray, List.getElem?_cons_zero, List.getElem?_cons_succ]; rfl)
  case hQ8 => exact fun _ _ _ h => h
  case hy8 => exact Or.inl ⟨by rfl, by (intro w hSw; (try dsimp only at hSw); go_simp )⟩
  simp only [Act.put, List.setIfInBounds_toArray, List.set_cons_zero, List.set_cons_succ]
  refine wpAnyH_take (i := 8) (oi := ?oi9) (v := .bool true) ?hi9 (by kernel_rfl) (by kernel_rfl) (by kernel_rfl) ?hQ9 ?hy9 (by assumption) ?rest9
  case hi9 => (simp only [List.getElem?_toArray, List.getElem?_cons_zero, List.getElem?_cons_succ]; rfl)
  case hQ9 => exact fun _ _ _ h => h
  case hy9 => exact Or.inl ⟨by rfl, by (intro w hSw; (try dsimp only at hSw); go_simp )⟩
  simp only [Act.put, List.setIfInBounds_toArray, List.set_cons_zero, List.set_cons_succ]
  refine wpAnyH_take (i := 9) (oi := ?oi10) (v := .bool true) ?hi10 (by kernel_rfl) (by kernel_rfl) (by kernel_rfl) ?hQ10 ?hy10 (by assumption) ?rest10
  case hi10 => (simp only [List.getElem?_toArray, List.getElem?_cons_zero, List.getElem?_cons_succ]; rfl)
  case hQ10 => exact fun _ _ _ h => h
  case hy10 => exact Or.inl ⟨by rfl, by (intro w hSw; (try dsimp only at hSw); go_simp )⟩
  simp only [Act.put, List.setIfInBounds_toArray, List.set_cons_zero, List.set_cons_succ]
  refine wpAnyH_take (i := 10) (oi := ?oi11) (v := .bool b1) ?hi11 (by kernel_rfl) (by kernel_rfl) (by kernel_rfl) ?hQ11 ?hy11 (by assumption) ?rest11
  case hi11 => (simp only [List.getElem?_toArray, List.getElem?_cons_zero, List.getElem?_cons_succ]; rfl)
  case hQ11 => exact fun _ _ _ h => h
  case hy11 => exact Or.inl ⟨by rfl, by (intro w hSw; (try dsimp only at hSw); go_simp )⟩
  simp only [Act.put, List.setIfInBounds_toArray, List.set_cons_zero, List.set_cons_succ]
  refine wpAnyH_take (i := 11) (oi := ?oi12) (v := .bool b1) ?hi12 (by kernel_rfl) (by kernel_rfl) (by kernel_rfl) ?hQ12 ?hy12 (by assumption) ?rest12
  case hi12 => (simp only [List.getElem?_toArray, List.getElem?_cons_zero, List.getElem?_cons_succ]; rfl)
  case hQ12 => exact fun _ _ _ h => h
  case hy12 => exact Or.inl ⟨by rfl, by (intro w hSw; (try dsimp only at hSw); go_simp )⟩
  simp only [Act.put, List.setIfInBounds_toArray, List.set_cons_zero, List.set_cons_succ]
  refine wpAnyH_take (i := 12) (oi := ?oi13) (v := .bool true) ?hi13 (by kernel_rfl) (by kernel_rfl) (by kernel_rfl) ?hQ13 ?hy13 (by assumption) ?rest13
  case hi13 => (simp only [List.getElem?_toArray, List.getElem?_cons_zero, List.getElem?_cons_succ]; rfl)
  case hQ13 => exact fun _ _ _ h => h
  case hy13 => exact Or.inl ⟨by rfl, by (intro w hSw; (try dsimp only at hSw); go_simp )⟩
  simp only [Act.put, List.setIfInBounds_toArray, List.set_cons_zero, List.set_cons_succ]
  refine wpAnyH_take (i := 13) (oi := ?oi14) (v := .bool true) ?hi14 (by kernel_rfl) (by kernel_rfl) (by kernel_rfl) ?hQ14 ?hy14 (by assumption) ?rest14
  case hi14 => (simp only [List.getElem?_toArray, List.getElem?_cons_zero, List.getElem?_cons_succ]; rfl)
  case hQ14 => exact fun _ _ _ h => h
  case hy14 => exact Or.inl ⟨by rfl, by (intro w hSw; (try dsimp only at hSw); go_simp )⟩
  simp only [Act.put, List.setIfInBounds_toArray, List.set_cons_zero, List.set_cons_succ]
  refine wpAnyH_take (i := 14) (oi := ?oi15) (v := .bool true) ?hi15 (by kernel_rfl) (by kernel_rfl) (by kernel_rfl) ?hQ15 ?hy15 (by assumption) ?rest15
  case hi15 => (simp only [List.getElem?_toArray, List.getElem?_cons_zero, List.getElem?_cons_succ]; rfl)
  case hQ15 => exact fun _ _ _ h => h
  case hy15 => exact Or.inl ⟨by rfl, by (intro w hSw; (try dsimp only at hSw); go_simp )⟩
  simp only [Act.put, List.setIfInBounds_toArray, List.set_cons_zero, List.set_cons_succ]
  refine wpAnyH_take (i := 15) (oi := ?oi16) (v := .agg s.cells) ?hi16 (by kernel_rfl) (by kernel_rfl) (by kernel_rfl) ?hQ16 ?hy16 (by assumption) ?rest16
  case hi16 => (simp only [List.getElem?_toArray, List.getElem?_cons_zero, List.getElem?_cons_succ]; rfl)
  case hQ16 => exact fun _ _ _ h => h
  case hy16 => exact y_ur w.heap.size s (fun V hV => hV.2.2.1) rfl rfl
  simp only [Act.put, List.setIfInBounds_toArray, List.set_cons_zero, List.set_cons_succ]
  refine wpAnyH_take (i := 19) (oi := ?oi17) (v := .agg s.cells) ?hi17 (by kernel_rfl) (by kernel_rfl) (by kernel_rfl) ?hQ17 ?hy17 (by assumption) ?rest17
  case hi17 => (simp only [List.getElem?_toArray, List.getElem?_cons_zero, List.getElem?_cons_succ]; rfl)
  case hQ17 => exact fun _ _ _ h => h
  case hy17 => exact y_ur w.heap.size s (fun V hV => hV.2.2.1) rfl rfl
  simp only [Act.put, List.setIfInBounds_toArray, List.set_cons_zero, List.set_cons_succ]
  refine wpAnyH_take (i := 17) (oi := ?oi18) (v := .int .u8 (c : Nat)) ?hi18 (by kernel_rfl) (by kernel_rfl) (by kernel_rfl) ?hQ18 ?hy18 (by assumption) ?rest18
  case hi18 => (simp only [List.getElem?_toArray, List.getElem?_cons_zero, List.getElem?_cons_succ]; rfl)
  case hQ18 => exact fun _ _ _ h => h
  case hy18 => exact Or.inl ⟨by rfl, by (intro w hSw; (try dsimp only at hSw); go_simp )⟩
  simp only [Act.put, List.setIfInBounds_toArray, List.set_cons_zero, List.set_cons_succ]
  refine wpAnyH_take (i := 20) (oi := ?oi19) (v := .int .u8 (c : Nat)) ?hi19 (by kernel_rfl) (by kernel_rfl) (by kernel_rfl) ?hQ19 ?hy19 (by assumption) ?rest19
  case hi19 => (simp only [List.getElem?_toArray, List.getElem?_cons_zero, List.getElem?_cons_succ]; rfl)
  case hQ19 => exact fun _ _ _ h => h
  case hy19 => exact Or.inl ⟨by rfl, by (intro w hSw; (try dsimp only at hSw); go_simp )⟩
  simp only [Act.put, List.setIfInBounds_toArray, List.set_cons_zero, List.set_cons_succ]
  refine wpAnyH_ready (rs := [16]) (by kernel_rfl) (by simp) ?_
  refine AllReadyH.cons (o := ?oi20) ?hi20 (fun K hK => ?_) AllReadyH.nil
  case hi20 => (simp only [List.getElem?_toArray, List.getElem?_cons_zero, List.getElem?_cons_succ]; rfl)
  rw [if_pos (by rfl)]
  go_simp
  (with_reducible refine (HG.out _ _).mono ?_)
  rintro e V ⟨rfl, hbc⟩
  have hH2 := hide (And.intro (hHeld.1.bl hbc) (And.intro (hHeld.2.1.bl hbc) (And.intro (hHeld.2.2.1.bl hbc) (below_bl rfl hHeld.2.2.2 hbc))))
  clear hHeld hbc
  go_simp
  refine hK.out _ _ ?_ (fun hHeld => ?_)
  · exact hH2.out
  clear hK K
  clear hH2
  refine wpAnyH_ready (rs := [18]) (by kernel_rfl) (by simp) ?_
  refine AllReadyH.cons (o := ?oi21) ?hi21 (fun K hK => ?_) AllReadyH.nil
  case hi21 => (simp only [List.getElem?_toArray, List.getElem?_cons_zero, List.getElem?_cons_succ]; rfl)
  rw [if_pos (by rfl)]
  go_simp
  (with_reducible refine (HP.out _).mono ?_)
  rintro e V ⟨rfl, hbc⟩
  have hH2 := hide (And.intro (hHeld.1.bl hbc) (And.intro (hHeld.2.1.bl hbc) (And.intro (hHeld.2.2.1.bl hbc) (below_bl rfl hHeld.2.2.2 hbc))))
  clear hHeld hbc
  go_simp
  refine hK.out _ _ ?_ (fun hHeld => ?_)
  · exact hH2.out
  clear hK K
  clear hH2
  refine wpAnyH_ready (rs := [21]) (by kernel_rfl) (by simp) ?_
  refine AllReadyH.cons (o := ?oi22) ?hi22 (fun K hK => ?_) AllReadyH.nil
  case hi22 => (simp only [List.getElem?_toArray, List.getElem?_cons_zero, List.getElem?_cons_succ]; rfl)
  rw [if_pos (by rfl)]
  go_simp
  (with_reducible refine (HRP.out _).mono ?_)
  rintro e V ⟨rfl, hbc⟩
  have hH2 := hide (And.intro (hHeld.1.bl hbc) (And.intro (hHeld.2.1.bl hbc) (And.intro (hHeld.2.2.1.bl hbc) (below_bl rfl hHeld.2.2.2 hbc))))
  clear hHeld hbc
  go_simp
  refine hK.out _ _ ?_ (fun hHeld => ?_)
  · exact hH2.out
  clear hK K
  clear hH2
  refine wpAnyH_ready (rs := [22]) (by kernel_rfl) (by simp) ?_
  refine AllReadyH.cons (o := ?oi23) ?hi23 (fun K hK => ?_) AllReadyH.nil
  case hi23 => (simp only [List.getElem?_toArray, List.getElem?_cons_zero, List.getElem?_cons_succ]; rfl)
  rw [if_pos (by rfl)]
  go_simp
  (with_reducible refine (HG.out _ _).mono ?_)
  rintro e V ⟨rfl, hbc⟩
  have hH2 := hide (And.intro (hHeld.1.bl hbc) (And.intro (hHeld.2.1.bl hbc) (And.intro (hHeld.2.2.1.bl hbc) (below_bl rfl hHeld.2.2.2 hbc))))
  clear hHeld hbc
  go_simp
  refine hK.out _ _ ?_ (fun hHeld => ?_)
  · exact hH2.out
  clear hK K
  clear hH2
  refine wpAnyH_take (i := 23) (oi := ?oi24) (v := .bool true) ?hi24 (by kernel_rfl) (by kernel_rfl) (by kernel_rfl) ?hQ24 ?hy24 (by assumption) ?rest24
  case hi24 => (simp only [List.getElem?_toArray, List.getElem?_cons_zero, List.getElem?_cons_succ]; rfl)
  case hQ24 => exact fun _ _ _ h => h
  case hy24 => exact y_equ p rfl rfl rfl
  simp only [Act.put, List.setIfInBounds_toArray, List.set_cons_zero, List.set_cons_succ]
  refine wpAnyH_take (i := 24) (oi := ?oi25) (v := .bool true) ?hi25 (by kernel_rfl) (by kernel_rfl) (by kernel_rfl) ?hQ25 ?hy25 (by assumption) ?rest25
  case hi25 => (simp only [List.getElem?_toArray, List.getElem?_cons_zero, List.getElem?_cons_succ]; rfl)
  case hQ25 => exact fun _ _ _ h => h
  case hy25 => exact Or.inl ⟨by rfl, by (intro w hSw; (try dsimp only at hSw); go_simp )⟩
  simp only [Act.put, List.setIfInBounds_toArray, List.set_cons_zero, List.set_cons_succ]
  refine wpAnyH_take (i := 25) (oi := ?oi26) (v := .bool true) ?hi26 (by kernel_rfl) (by kernel_rfl) (by kernel_rfl) ?hQ26 ?hy26 (by assumption) ?rest26
  case hi26 => (simp only [List.getElem?_toArray, List.getElem?_cons_zero, List.getElem?_cons_succ]; rfl)
  case hQ26 => exact fun _ _ _ h => h
  case hy26 => exact Or.inl ⟨by rfl, by (intro w hSw; (try dsimp only at hSw); go_simp )⟩
  simp only [Act.put, List.setIfInBounds_toArray, List.set_cons_zero, List.set_cons_succ]
  refine wpAnyH_ready (rs := [26]) (by kernel_rfl) (by simp) ?_
  refine AllReadyH.cons (o := ?oi27) ?hi27 (fun K hK => ?_) AllReadyH.nil
  case hi27 => (simp only [List.getElem?_toArray, List.getElem?_cons_zero, List.getElem?_cons_succ]; rfl)
  rw [if_pos (by rfl)]
  go_simp
  (with_reducible refine (HS.out _).mono ?_)
  rintro e V ⟨rfl, hbc⟩
  have hH2 := hide (And.intro (hHeld.1.bl hbc) (And.intro (hHeld.2.1.bl hbc) (And.intro (hHeld.2.2.1.bl hbc) (below_bl rfl hHeld.2.2.2 hbc))))
  clear hHeld hbc
  go_simp
  refine hK.out _ _ ?_ (fun hHeld => ?_)
  · exact hH2.out
  clear hK K
  clear hH2
  refine wpAnyH_take (i := 27) (oi := ?oi28) (v := .bool true) ?hi28 (by kernel_rfl) (by kernel_rfl) (by kernel_rfl) ?hQ28 ?hy28 (by assumption) ?rest28
  case hi28 => (simp only [List.getElem?_toArray, List.getElem?_cons_zero, List.getElem?_cons_succ]; rfl)
  case hQ28 => exact fun _ _ _ h => h
  case hy28 => exact Or.inl ⟨by rfl, by (intro w hSw; (try dsimp only at hSw); go_simp )⟩
  simp only [Act.put, List.setIfInBounds_toArray, List.set_cons_zero, List.set_cons_succ]
  refine wpAnyH_take (i := 28) (oi := ?oi29) (v := .bool true) ?hi29 (by kernel_rfl) (by kernel_rfl) (by kernel_rfl) ?hQ29 ?hy29 (by assumption) ?rest29
  case hi29 => (simp only [List.getElem?_toArray, List.getElem?_cons_zero, List.getElem?_cons_succ]; rfl)
  case hQ29 => exact fun _ _ _ h => h
  case hy29 => exact Or.inl ⟨by rfl, by (intro w hSw; (try dsimp only at hSw); go_simp )⟩
  simp only [Act.put, List.setIfInBounds_toArray, List.set_cons_zero, List.set_cons_succ]
  refine wpAnyH_done (by kernel_rfl) ?_ _
  have hb := hHeld.2.2.2
  clear hHeld
  go_wp2
  go_ret
  exact ⟨rfl, hb⟩

end Go.Proofs.Ythopfecjnbfnmaa
