/-
  What the document's Read answers of the other places, and of any.
-/
import Derived.Test.YthopfecjnbfnmaaDoorUaRRead0
namespace Go.Proofs.YthopfecjnbfnmaaDoor
open Go.RowKit
set_option linter.unusedVariables false

theorem list_at (s : U) (hm : mayU s = true) (a : Nat) (h7 : a ≤ 7) (h5 : a ≠ 5) (hd : dlB s = false → a ≠ 0) :
    readV s a = (s, (if dlB s = true then setB (lstG s (asksN s)) 1 s.dm else lstG s (asksN s)) a, 0) := by
  unfold readV readS
  rw [if_pos hm]
  have h8 : a = 0 ∨ a = 1 ∨ a = 2 ∨ a = 3 ∨ a = 4 ∨ a = 6 ∨ a = 7 := by omega
  cases hb : dlB s with
  | true =>
    rcases h8 with rfl | rfl | rfl | rfl | rfl | rfl | rfl
    · unfold dataS; rw [hb]; rfl
    all_goals rfl
  | false =>
    rcases h8 with rfl | rfl | rfl | rfl | rfl | rfl | rfl
    · exact absurd rfl (hd hb)
    all_goals rfl
theorem w192 (v : Nat) (h : v < 8) : IntKind.u8.wrap (192 + (v : Int)) = 192 + (v : Int) := by
  simp [IntKind.wrap, IntKind.bits, IntKind.signed]; omega
theorem asksN_8 (s : U) : asksN s < 8 := by
  unfold asksN
  split
  · decide
  · split
    · decide
    · split <;> decide
set_option maxRecDepth 20000 in
set_option maxHeartbeats 2000000 in
theorem rread_lt (s : U) (ok : s.Ok) (a : Nat) (h7 : a ≤ 7) (h5 : a ≠ 5) (hm : mayU s = true) (hd : dlB s = true) (w : World) :
    Calls Tryd.prog 7 #[.agg s.cells, .int .u32 (a : Nat)] w fun e w' => e = .returned (.tuple #[.agg (readV s a).1.cells, .int .u8 ((readV s a).2.1 : Nat), .int .i64 ((readV s a).2.2 : Nat)]) ∧ Below w.heap.size w w' := by
  have HV : readV s a = (s, (setB (lstG s (asksN s)) 1 s.dm) a, 0) := by have := list_at s hm a h7 h5 (fun h => by rw [hd] at h; cases h); rw [hd] at this; exact this
  rw [HV]; clear HV
  have HA := hide (fun w => rasks_any s ok (mayF.n0 ((mayU_iff s).1 hm).rx) w)
  have hv8 := asksN_8 s
  generalize asksN s = v at HA hv8 ⊢
  have v8 : (v : Int) < 8 := by omega
  have HC := hide (fun w => rcheck_ok s ok hm w)
  have d1 : (128 : Int) ≤ (s.lc : Int) := by unfold dlB at hd; have := of_decide_eq_true hd; omega
  have a5 : ((a : Int) == 5) = false := by simp; omega
  have a7 : decide ((a : Int) > 7) = false := by simp; omega
  have a7n : decide (7 < a) = false := by simp; omega
  have h8 : a < 8 := by omega
  have a8 : (a : Int) < 8 := by omega
  have HG : Hid (0 = 0) := hide rfl
  clear h5 h7 hm hd
  by_cases z0 : a = 0
  · have a0 : ((a : Int) == 0) = true := by simp [z0]
    clear z0
    go_enter Tryd.func7, Tryd.ntmps7
    go_wp2_with (first | ((with_reducible refine bx_ur w.heap.size s ?_ ?_ ?_); exact rfl; exact rfl; intro W hr hb hz) | ((with_reducible refine al_ur (w.heap.size + 1) ?_ ?_); exact hz.out; intro W hq hb' hz'; replace hr := hr.bl (hz.out ▸ hb'); replace hb := hb.trans (hb'.mono (by omega)); replace hz := hz') | (go_at_call 8; (with_reducible refine (HC.out _).mono ?_); rintro e W ⟨rfl, hbc⟩; replace hr := hr.bl hbc; replace hq := hq.bl hbc; replace hb := below_bl rfl hb hbc) | ((with_reducible refine ld_ur w.heap.size _ hr ?_ ?_ ?_); exact rfl; exact rfl) | ((with_reducible refine ld_lc w.heap.size _ _ hr ?_ ?_); exact rfl))
    refine wp_region_held_drew (S := (fun V => RowAt V w.heap.size s.cells 26 ∧ RowAt V (w.heap.size + 1) zeroU.cells 26 ∧ Below w.heap.size w V)) (by kernel_rfl) ?_ (fun hHeld => ?_)
    · exact ⟨hr.dr, hq.dr, hb.drew⟩
    generalize World.drew _ = V at hHeld ⊢
    clear hr hq hb
    refine wpAnyH_take (i := 0) (oi := ?oi7) (v := .pointer (some ⟨w.heap.size, 38, none⟩)) ?hi7 (by kernel_rfl) (by kernel_rfl) (by kernel_rfl) ?hQ7 ?hy7 (by assumption) ?rest7
    case hi7 => (simp only [List.getElem?_toArray, List.getElem?_cons_zero]; rfl)
    case hQ7 => exact fun _ _ _ h => h
    case hy7 => exact Or.inl ⟨by rfl, by (intro w hSw; (try dsimp only at hSw); go_simp )⟩
    simp only [Act.put, List.setIfInBounds_toArray, List.set_cons_zero, List.set_cons_succ]
    refine wpAnyH_take (i := 1) (oi := ?oi8) (v := .int .u8 (s.dl : Nat)) ?hi8 (by kernel_rfl) (by kernel_rfl) (by kernel_rfl) ?hQ8 ?hy8 (by assumption) ?rest8
    case hi8 => (simp only [List.getElem?_toArray, List.getElem?_cons_zero, List.getElem?_cons_succ]; rfl)
    case hQ8 => exact fun _ _ _ h => h
    case hy8 => exact y_dl w.heap.size s _ (fun V hV => hV.1) rfl
    simp only [Act.put, List.setIfInBounds_toArray, List.set_cons_zero, List.set_cons_succ]
    refine wpAnyH_take (i := 2) (oi := ?oi9) (v := .pointer (some ⟨w.heap.size, 34, none⟩)) ?hi9 (by kernel_rfl) (by kernel_rfl) (by kernel_rfl) ?hQ9 ?hy9 (by assumption) ?rest9
    case hi9 => (simp only [List.getElem?_toArray, List.getElem?_cons_zero, List.getElem?_cons_succ]; rfl)
    case hQ9 => exact fun _ _ _ h => h
    case hy9 => exact Or.inl ⟨by rfl, by (intro w hSw; (try dsimp only at hSw); go_simp )⟩
    simp only [Act.put, List.setIfInBounds_toArray, List.set_cons_zero, List.set_cons_succ]
    refine wpAnyH_take (i := 3) (oi := ?oi10) (v := .int .u8 (s.ie : Nat)) ?hi10 (by kernel_rfl) (by kernel_rfl) (by kernel_rfl) ?hQ10 ?hy10 (by assumption) ?rest10
    case hi10 => (simp only [List.getElem?_toArray, List.getElem?_cons_zero, List.getElem?_cons_succ]; rfl)
    case hQ10 => exact fun _ _ _ h => h
    case hy10 => exact y_ie w.heap.size s _ (fun V hV => hV.1) rfl
    simp only [Act.put, List.setIfInBounds_toArray, List.set_cons_zero, List.set_cons_succ]
    refine wpAnyH_take (i := 4) (oi := ?oi11) (v := .agg s.cells) ?hi11 (by kernel_rfl) (by kernel_rfl) (by kernel_rfl) ?hQ11 ?hy11 (by assumption) ?rest11
    case hi11 => (simp only [List.getElem?_toArray, List.getElem?_cons_zero, List.getElem?_cons_succ]; rfl)
    case hQ11 => exact fun _ _ _ h => h
    case hy11 => exact y_ur w.heap.size s (fun V hV => hV.1) rfl rfl
    simp only [Act.put, List.setIfInBounds_toArray, List.set_cons_zero, List.set_cons_succ]
    refine wpAnyH_take (i := 7) (oi := ?oi12) (v := .pointer (some ⟨w.heap.size, 35, none⟩)) ?hi12 (by kernel_rfl) (by kernel_rfl) (by kernel_rfl) ?hQ12 ?hy12 (by assumption) ?rest12
    case hi12 => (simp only [List.getElem?_toArray, List.getElem?_cons_zero, List.getElem?_cons_succ]; rfl)
    case hQ12 => exact fun _ _ _ h => h
    case hy12 => exact Or.inl ⟨by rfl, by (intro w hSw; (try dsimp only at hSw); go_simp )⟩
    simp only [Act.put, List.setIfInBounds_toArray, List.set_cons_zero, List.set_cons_succ]
    refine wpAnyH_take (i := 8) (oi := ?oi13) (v := .int .u8 (s.lc : Nat)) ?hi13 (by kernel_rfl) (by kernel_rfl) (by kernel_rfl) ?hQ13 ?hy13 (by assumption) ?rest13
    case hi13 => (simp only [List.getElem?_toArray, List.getElem?_cons_zero, List.getElem?_cons_succ]; rfl)
    case hQ13 => exact fun _ _ _ h => h
    case hy13 => exact y_lc w.heap.size s _ (fun V hV => hV.1) rfl
    simp only [Act.put, List.setIfInBounds_toArray, List.set_cons_zero, List.set_cons_succ]
    refine wpAnyH_take (i := 9) (oi := ?oi14) (v := .pointer (some ⟨w.heap.size, 36, none⟩)) ?hi14 (by kernel_rfl) (by kernel_rfl) (by kernel_rfl) ?hQ14 ?hy14 (by assumption) ?rest14
    case hi14 => (simp only [List.getElem?_toArray, List.getElem?_cons_zero, List.getElem?_cons_succ]; rfl)
    case hQ14 => exact fun _ _ _ h => h
    case hy14 => exact Or.inl ⟨by rfl, by (intro w hSw; (try dsimp only at hSw); go_simp )⟩
    simp only [Act.put, List.setIfInBounds_toArray, List.set_cons_zero, List.set_cons_succ]
    refine wpAnyH_take (i := 10) (oi := ?oi15) (v := .int .u8 (s.mc : Nat)) ?hi15 (by kernel_rfl) (by kernel_rfl) (by kernel_rfl) ?hQ15 ?hy15 (by assumption) ?rest15
    case hi15 => (simp only [List.getElem?_toArray, List.getElem?_cons_zero, List.getElem?_cons_succ]; rfl)
    case hQ15 => exact fun _ _ _ h => h
    case hy15 => exact y_mc w.heap.size s _ (fun V hV => hV.1) rfl
    simp only [Act.put, List.setIfInBounds_toArray, List.set_cons_zero, List.set_cons_succ]
    refine wpAnyH_take (i := 11) (oi := ?oi16) (v := .pointer (some ⟨w.heap.size, 37, none⟩)) ?hi16 (by kernel_rfl) (by kernel_rfl) (by kernel_rfl) ?hQ16 ?hy16 (by assumption) ?rest16
    case hi16 => (simp only [List.getElem?_toArray, List.getElem?_cons_zero, List.getElem?_cons_succ]; rfl)
    case hQ16 => exact fun _ _ _ h => h
    case hy16 => exact Or.inl ⟨by rfl, by (intro w hSw; (try dsimp only at hSw); go_simp )⟩
    simp only [Act.put, List.setIfInBounds_toArray, List.set_cons_zero, List.set_cons_succ]
    refine wpAnyH_take (i := 12) (oi := ?oi17) (v := .int .u8 (s.sc : Nat)) ?hi17 (by kernel_rfl) (by kernel_rfl) (by kernel_rfl) ?hQ17 ?hy17 (by assumption) ?rest17
    case hi17 => (simp only [List.getElem?_toArray, List.getElem?_cons_zero, List.getElem?_cons_succ]; rfl)
    case hQ17 => exact fun _ _ _ h => h
    case hy17 => exact y_sc w.heap.size s _ (fun V hV => hV.1) rfl
    simp only [Act.put, List.setIfInBounds_toArray, List.set_cons_zero, List.set_cons_succ]
    refine wpAnyH_ready (rs := [5]) (by kernel_rfl) (by simp) ?_
    refine AllReadyH.cons (o := ?oi18) ?hi18 (fun K hK => ?_) AllReadyH.nil
    case hi18 => (simp only [List.getElem?_toArray, List.getElem?_cons_zero, List.getElem?_cons_succ]; rfl)
    go_simp
    (with_reducible refine (HA.out _).mono ?_)
    rintro e V ⟨rfl, hbc⟩
    have hH2 := hide (And.intro (hHeld.1.bl hbc) (And.intro (hHeld.2.1.bl hbc) (below_bl rfl hHeld.2.2 hbc)))
    clear hHeld hbc
    go_simp
    refine hK.out _ _ ?_ (fun hHeld => ?_)
    · exact hH2.out
    clear hK K
    clear hH2
    refine wpAnyH_take (i := 6) (oi := ?oi19) (v := .int .u8 (192 + (v : Nat))) ?hi19 (by kernel_rfl) (by kernel_rfl) (by kernel_rfl) ?hQ19 ?hy19 (by assumption) ?rest19
    case hi19 => (simp only [List.getElem?_toArray, List.getElem?_cons_zero, List.getElem?_cons_succ]; rfl)
    case hQ19 => exact fun _ _ _ h => h
    case hy19 => exact Or.inl ⟨by rfl, by (intro w hSw; (try dsimp only at hSw); go_simp ; exact w192 v hv8)⟩
    simp only [Act.put, List.setIfInBounds_toArray, List.set_cons_zero, List.set_cons_succ]
    refine wpAnyH_ready (rs := [13]) (by kernel_rfl) (by simp) ?_
    refine AllReadyH.cons (o := ?oi20) ?hi20 (fun K hK => ?_) AllReadyH.nil
    case hi20 => (simp only [List.getElem?_toArray, List.getElem?_cons_zero, List.getElem?_cons_succ]; rfl)
    obtain ⟨NL, hNL⟩ : ∃ n, V.heap.size = n := ⟨_, rfl⟩
    have lNL : w.heap.size + 2 ≤ NL := by have := hHeld.2.1.lt; omega
    replace hNL := hide hNL
    rw [if_pos (by rfl)]
    (with_reducible refine s_bsn 56 5 8 Tryd.underlying56 (c8 (lstG s v)) NL ?_ _ ?_ ⟨built_8 s v⟩ ?_)
    · exact hNL.out
    · kernel_rfl
    intro V hl hb' hzY
    have hH2 := hide (And.intro (hHeld.1.bl (hNL.out ▸ hb')) (And.intro (hHeld.2.1.bl (hNL.out ▸ hb')) (hHeld.2.2.trans (hb'.mono (by omega)))))
    simp only [Act.put, List.setIfInBounds_toArray, List.set_cons_zero, List.set_cons_succ]
    clear hHeld
    refine hK.out _ _ ?_ (fun hHeld => ?_)
    · exact hH2.out
    clear hK K
    clear hH2
    refine wpAnyH_take (i := 14) (oi := ?oi21) (v := .slice (some ⟨NL, 0, none⟩) 8 8) ?hi21 (by kernel_rfl) (by kernel_rfl) (by kernel_rfl) ?hQ21 ?hy21 (by assumption) ?rest21
    case hi21 => (simp only [List.getElem?_toArray, List.getElem?_cons_zero, List.getElem?_cons_succ]; rfl)
    case hQ21 => exact fun _ _ _ h => h
    case hy21 => exact Or.inl ⟨by rfl, by (intro w hSw; (try dsimp only at hSw); go_simp )⟩
    simp only [Act.put, List.setIfInBounds_toArray, List.set_cons_zero, List.set_cons_succ]
    refine wpAnyH_done (by kernel_rfl) ?_ _
    have hr := hHeld.1
    have hq := hHeld.2.1
    have hb := hHeld.2.2
    clear hHeld
    go_wp2_with (first | ((with_reducible refine ld_dm w.heap.size _ _ hr ?_ ?_); exact rfl) | ((with_reducible refine st_l1 NL _ s.dm hl ?_ ?_ ?_); exact rfl; exact rfl; intro W hnew ho; replace hr := hr.only ho (by omega); replace hq := hq.only ho (by omega); replace hl := hnew; replace hb := ho.bel _ _ (by omega) hb))
    obtain ⟨G, hG⟩ : ∃ G, (setB (lstG s v) 1 s.dm) = G := ⟨_, rfl⟩
    rw [hG] at hl
    refine wp_region_held_drew (S := (fun V => RowAt V w.heap.size s.cells 26 ∧ RowAt V NL (c8 G) 5 ∧ Below w.heap.size w V)) (by kernel_rfl) ?_ (fun hHeld => ?_)
    · exact ⟨hr.dr, hl.dr, hb.drew⟩
    replace hq := hq.dr
    generalize World.drew _ = V at hHeld hq ⊢
    clear hr hl hb
    refine wpAnyH_take (i := 0) (oi := ?oi22) (v := .agg s.cells) ?hi22 (by kernel_rfl) (by kernel_rfl) (by kernel_rfl) ?hQ22 ?hy22 (by assumption) ?rest22
    case hi22 => (simp only [List.getElem?_toArray, List.getElem?_cons_zero]; rfl)
    case hQ22 => exact fun _ _ _ h => h
    case hy22 => exact y_ur w.heap.size s (fun V hV => hV.1) rfl rfl
    simp only [Act.put, List.setIfInBounds_toArray, List.set_cons_zero, List.set_cons_succ]
    refine wpAnyH_take (i := 1) (oi := ?oi23) (v := .slice (some ⟨NL, 0, none⟩) 8 8) ?hi23 (by kernel_rfl) (by kernel_rfl) (by kernel_rfl) ?hQ23 ?hy23 (by assumption) ?rest23
    case hi23 => (simp only [List.getElem?_toArray, List.getElem?_cons_zero, List.getElem?_cons_succ]; rfl)
    case hQ23 => exact fun _ _ _ h => h
    case hy23 => exact Or.inl ⟨by rfl, by (intro w hSw; (try dsimp only at hSw); go_simp )⟩
    simp only [Act.put, List.setIfInBounds_toArray, List.set_cons_zero, List.set_cons_succ]
    refine wpAnyH_take (i := 2) (oi := ?oi24) (v := .int .u32 (a : Nat)) ?hi24 (by kernel_rfl) (by kernel_rfl) (by kernel_rfl) ?hQ24 ?hy24 (by assumption) ?rest24
    case hi24 => (simp only [List.getElem?_toArray, List.getElem?_cons_zero, List.getElem?_cons_succ]; rfl)
    case hQ24 => exact fun _ _ _ h => h
    case hy24 => exact Or.inl ⟨by rfl, by (intro w hSw; (try dsimp only at hSw); go_simp )⟩
    simp only [Act.put, List.setIfInBounds_toArray, List.set_cons_zero, List.set_cons_succ]
    refine wpAnyH_take (i := 3) (oi := ?oi25) (v := .pointer (some ⟨NL, a, none⟩)) ?hi25 (by kernel_rfl) (by kernel_rfl) (by kernel_rfl) ?hQ25 ?hy25 (by assumption) ?rest25
    case hi25 => (simp only [List.getElem?_toArray, List.getElem?_cons_zero, List.getElem?_cons_succ]; rfl)
    case hQ25 => exact fun _ _ _ h => h
    case hy25 => exact Or.inl ⟨by rfl, by (intro w hSw; (try dsimp only at hSw); go_simp )⟩
    simp only [Act.put, List.setIfInBounds_toArray, List.set_cons_zero, List.set_cons_succ]
    refine wpAnyH_take (i := 4) (oi := ?oi26) (v := .int .u8 (G a : Nat)) ?hi26 (by kernel_rfl) (by kernel_rfl) (by kernel_rfl) ?hQ26 ?hy26 (by assumption) ?rest26
    case hi26 => (simp only [List.getElem?_toArray, List.getElem?_cons_zero, List.getElem?_cons_succ]; rfl)
    case hQ26 => exact fun _ _ _ h => h
    case hy26 => exact y_8 NL a _ (fun V hV => (hV.2.1.cell a).trans (c8_at G a h8)) rfl
    simp only [Act.put, List.setIfInBounds_toArray, List.set_cons_zero, List.set_cons_succ]
    refine wpAnyH_ready (rs := [5]) (by kernel_rfl) (by simp) ?_
    refine AllReadyH.cons (o := ?oi27) ?hi27 (fun K hK => ?_) AllReadyH.nil
    case hi27 => (simp only [List.getElem?_toArray, List.getElem?_cons_zero, List.getElem?_cons_succ]; rfl)
    rw [if_pos (by rfl)]
    (with_reducible refine s_ur (w.heap.size + 1) _ s hq ?_ ?_ ?_)
    · exact rfl
    · exact rfl
    intro V hnew ho
    have hH2 := hide (And.intro (hHeld.1.only ho (by omega)) (And.intro (hHeld.2.1.only ho (by omega)) (ho.bel _ _ (by omega) hHeld.2.2)))
    replace hq := hnew
    clear hHeld hnew ho
    refine hK.out _ _ ?_ (fun hHeld => ?_)
    · exact hH2.out
    clear hK K
    clear hH2
    refine wpAnyH_take (i := 6) (oi := ?oi28) (v := .int .u8 (G a : Nat)) ?hi28 (by kernel_rfl) (by kernel_rfl) (by kernel_rfl) ?hQ28 ?hy28 (by assumption) ?rest28
    case hi28 => (simp only [List.getElem?_toArray, List.getElem?_cons_zero, List.getElem?_cons_succ]; rfl)
    case hQ28 => exact fun _ _ _ h => h
    case hy28 => exact Or.inl ⟨by rfl, by (intro w hSw; (try dsimp only at hSw); go_simp )⟩
    simp only [Act.put, List.setIfInBounds_toArray, List.set_cons_zero, List.set_cons_succ]
    refine wpAnyH_take (i := 7) (oi := ?oi29) (v := .int .i64 0) ?hi29 (by kernel_rfl) (by kernel_rfl) (by kernel_rfl) ?hQ29 ?hy29 (by assumption) ?rest29
    case hi29 => (simp only [List.getElem?_toArray, List.getElem?_cons_zero, List.getElem?_cons_succ]; rfl)
    case hQ29 => exact fun _ _ _ h => h
    case hy29 => exact Or.inl ⟨by rfl, by (intro w hSw; (try dsimp only at hSw); go_simp )⟩
    simp only [Act.put, List.setIfInBounds_toArray, List.set_cons_zero, List.set_cons_succ]
    refine wpAnyH_done (by kernel_rfl) ?_ _
    have hb := hHeld.2.2
    clear hHeld
    go_wp2
    refine bodyPost_ret (results_cell_two Tryd.results7 _ _ (w.heap.size + 1) _ _ _ rfl hq Tryd.underlying26 rfl size_ur) rfl ?_
    exact ⟨by rw [← hG]; rfl, hb⟩
  · have a0 : ((a : Int) == 0) = false := by simp; omega
    clear z0
    go_enter Tryd.func7, Tryd.ntmps7
    go_wp2_with (first | ((with_reducible refine bx_ur w.heap.size s ?_ ?_ ?_); exact rfl; exact rfl; intro W hr hb hz) | ((with_reducible refine al_ur (w.heap.size + 1) ?_ ?_); exact hz.out; intro W hq hb' hz'; replace hr := hr.bl (hz.out ▸ hb'); replace hb := hb.trans (hb'.mono (by omega)); replace hz := hz') | (go_at_call 8; (with_reducible refine (HC.out _).mono ?_); rintro e W ⟨rfl, hbc⟩; replace hr := hr.bl hbc; replace hq := hq.bl hbc; replace hb := below_bl rfl hb hbc) | ((with_reducible refine ld_ur w.heap.size _ hr ?_ ?_ ?_); exact rfl; exact rfl) | ((with_reducible refine ld_lc w.heap.size _ _ hr ?_ ?_); exact rfl))
    refine wp_region_held_drew (S := (fun V => RowAt V w.heap.size s.cells 26 ∧ RowAt V (w.heap.size + 1) zeroU.cells 26 ∧ Below w.heap.size w V)) (by kernel_rfl) ?_ (fun hHeld => ?_)
    · exact ⟨hr.dr, hq.dr, hb.drew⟩
    generalize World.drew _ = V at hHeld ⊢
    clear hr hq hb
    refine wpAnyH_take (i := 0) (oi := ?oi30) (v := .pointer (some ⟨w.heap.size, 38, none⟩)) ?hi30 (by kernel_rfl) (by kernel_rfl) (by kernel_rfl) ?hQ30 ?hy30 (by assumption) ?rest30
    case hi30 => (simp only [List.getElem?_toArray, List.getElem?_cons_zero]; rfl)
    case hQ30 => exact fun _ _ _ h => h
    case hy30 => exact Or.inl ⟨by rfl, by (intro w hSw; (try dsimp only at hSw); go_simp )⟩
    simp only [Act.put, List.setIfInBounds_toArray, List.set_cons_zero, List.set_cons_succ]
    refine wpAnyH_take (i := 1) (oi := ?oi31) (v := .int .u8 (s.dl : Nat)) ?hi31 (by kernel_rfl) (by kernel_rfl) (by kernel_rfl) ?hQ31 ?hy31 (by assumption) ?rest31
    case hi31 => (simp only [List.getElem?_toArray, List.getElem?_cons_zero, List.getElem?_cons_succ]; rfl)
    case hQ31 => exact fun _ _ _ h => h
    case hy31 => exact y_dl w.heap.size s _ (fun V hV => hV.1) rfl
    simp only [Act.put, List.setIfInBounds_toArray, List.set_cons_zero, List.set_cons_succ]
    refine wpAnyH_take (i := 2) (oi := ?oi32) (v := .pointer (some ⟨w.heap.size, 34, none⟩)) ?hi32 (by kernel_rfl) (by kernel_rfl) (by kernel_rfl) ?hQ32 ?hy32 (by assumption) ?rest32
    case hi32 => (simp only [List.getElem?_toArray, List.getElem?_cons_zero, List.getElem?_cons_succ]; rfl)
    case hQ32 => exact fun _ _ _ h => h
    case hy32 => exact Or.inl ⟨by rfl, by (intro w hSw; (try dsimp only at hSw); go_simp )⟩
    simp only [Act.put, List.setIfInBounds_toArray, List.set_cons_zero, List.set_cons_succ]
    refine wpAnyH_take (i := 3) (oi := ?oi33) (v := .int .u8 (s.ie : Nat)) ?hi33 (by kernel_rfl) (by kernel_rfl) (by kernel_rfl) ?hQ33 ?hy33 (by assumption) ?rest33
    case hi33 => (simp only [List.getElem?_toArray, List.getElem?_cons_zero, List.getElem?_cons_succ]; rfl)
    case hQ33 => exact fun _ _ _ h => h
    case hy33 => exact y_ie w.heap.size s _ (fun V hV => hV.1) rfl
    simp only [Act.put, List.setIfInBounds_toArray, List.set_cons_zero, List.set_cons_succ]
    refine wpAnyH_take (i := 4) (oi := ?oi34) (v := .agg s.cells) ?hi34 (by kernel_rfl) (by kernel_rfl) (by kernel_rfl) ?hQ34 ?hy34 (by assumption) ?rest34
    case hi34 => (simp only [List.getElem?_toArray, List.getElem?_cons_zero, List.getElem?_cons_succ]; rfl)
    case hQ34 => exact fun _ _ _ h => h
    case hy34 => exact y_ur w.heap.size s (fun V hV => hV.1) rfl rfl
    simp only [Act.put, List.setIfInBounds_toArray, List.set_cons_zero, List.set_cons_succ]
    refine wpAnyH_take (i := 7) (oi := ?oi35) (v := .pointer (some ⟨w.heap.size, 35, none⟩)) ?hi35 (by kernel_rfl) (by kernel_rfl) (by kernel_rfl) ?hQ35 ?hy35 (by assumption) ?rest35
    case hi35 => (simp only [List.getElem?_toArray, List.getElem?_cons_zero, List.getElem?_cons_succ]; rfl)
    case hQ35 => exact fun _ _ _ h => h
    case hy35 => exact Or.inl ⟨by rfl, by (intro w hSw; (try dsimp only at hSw); go_simp )⟩
    simp only [Act.put, List.setIfInBounds_toArray, List.set_cons_zero, List.set_cons_succ]
    refine wpAnyH_take (i := 8) (oi := ?oi36) (v := .int .u8 (s.lc : Nat)) ?hi36 (by kernel_rfl) (by kernel_rfl) (by kernel_rfl) ?hQ36 ?hy36 (by assumption) ?rest36
    case hi36 => (simp only [List.getElem?_toArray, List.getElem?_cons_zero, List.getElem?_cons_succ]; rfl)
    case hQ36 => exact fun _ _ _ h => h
    case hy36 => exact y_lc w.heap.size s _ (fun V hV => hV.1) rfl
    simp only [Act.put, List.setIfInBounds_toArray, List.set_cons_zero, List.set_cons_succ]
    refine wpAnyH_take (i := 9) (oi := ?oi37) (v := .pointer (some ⟨w.heap.size, 36, none⟩)) ?hi37 (by kernel_rfl) (by kernel_rfl) (by kernel_rfl) ?hQ37 ?hy37 (by assumption) ?rest37
    case hi37 => (simp only [List.getElem?_toArray, List.getElem?_cons_zero, List.getElem?_cons_succ]; rfl)
    case hQ37 => exact fun _ _ _ h => h
    case hy37 => exact Or.inl ⟨by rfl, by (intro w hSw; (try dsimp only at hSw); go_simp )⟩
    simp only [Act.put, List.setIfInBounds_toArray, List.set_cons_zero, List.set_cons_succ]
    refine wpAnyH_take (i := 10) (oi := ?oi38) (v := .int .u8 (s.mc : Nat)) ?hi38 (by kernel_rfl) (by kernel_rfl) (by kernel_rfl) ?hQ38 ?hy38 (by assumption) ?rest38
    case hi38 => (simp only [List.getElem?_toArray, List.getElem?_cons_zero, List.getElem?_cons_succ]; rfl)
    case hQ38 => exact fun _ _ _ h => h
    case hy38 => exact y_mc w.heap.size s _ (fun V hV => hV.1) rfl
    simp only [Act.put, List.setIfInBounds_toArray, List.set_cons_zero, List.set_cons_succ]
    refine wpAnyH_take (i := 11) (oi := ?oi39) (v := .pointer (some ⟨w.heap.size, 37, none⟩)) ?hi39 (by kernel_rfl) (by kernel_rfl) (by kernel_rfl) ?hQ39 ?hy39 (by assumption) ?rest39
    case hi39 => (simp only [List.getElem?_toArray, List.getElem?_cons_zero, List.getElem?_cons_succ]; rfl)
    case hQ39 => exact fun _ _ _ h => h
    case hy39 => exact Or.inl ⟨by rfl, by (intro w hSw; (try dsimp only at hSw); go_simp )⟩
    simp only [Act.put, List.setIfInBounds_toArray, List.set_cons_zero, List.set_cons_succ]
    refine wpAnyH_take (i := 12) (oi := ?oi40) (v := .int .u8 (s.sc : Nat)) ?hi40 (by kernel_rfl) (by kernel_rfl) (by kernel_rfl) ?hQ40 ?hy40 (by assumption) ?rest40
    case hi40 => (simp only [List.getElem?_toArray, List.getElem?_cons_zero, List.getElem?_cons_succ]; rfl)
    case hQ40 => exact fun _ _ _ h => h
    case hy40 => exact y_sc w.heap.size s _ (fun V hV => hV.1) rfl
    simp only [Act.put, List.setIfInBounds_toArray, List.set_cons_zero, List.set_cons_succ]
    refine wpAnyH_ready (rs := [5]) (by kernel_rfl) (by simp) ?_
    refine AllReadyH.cons (o := ?oi41) ?hi41 (fun K hK => ?_) AllReadyH.nil
    case hi41 => (simp only [List.getElem?_toArray, List.getElem?_cons_zero, List.getElem?_cons_succ]; rfl)
    go_simp
    (with_reducible refine (HA.out _).mono ?_)
    rintro e V ⟨rfl, hbc⟩
    have hH2 := hide (And.intro (hHeld.1.bl hbc) (And.intro (hHeld.2.1.bl hbc) (below_bl rfl hHeld.2.2 hbc)))
    clear hHeld hbc
    go_simp
    refine hK.out _ _ ?_ (fun hHeld => ?_)
    · exact hH2.out
    clear hK K
    clear hH2
    refine wpAnyH_take (i := 6) (oi := ?oi42) (v := .int .u8 (192 + (v : Nat))) ?hi42 (by kernel_rfl) (by kernel_rfl) (by kernel_rfl) ?hQ42 ?hy42 (by assumption) ?rest42
    case hi42 => (simp only [List.getElem?_toArray, List.getElem?_cons_zero, List.getElem?_cons_succ]; rfl)
    case hQ42 => exact fun _ _ _ h => h
    case hy42 => exact Or.inl ⟨by rfl, by (intro w hSw; (try dsimp only at hSw); go_simp ; exact w192 v hv8)⟩
    simp only [Act.put, List.setIfInBounds_toArray, List.set_cons_zero, List.set_cons_succ]
    refine wpAnyH_ready (rs := [13]) (by kernel_rfl) (by simp) ?_
    refine AllReadyH.cons (o := ?oi43) ?hi43 (fun K hK => ?_) AllReadyH.nil
    case hi43 => (simp only [List.getElem?_toArray, List.getElem?_cons_zero, List.getElem?_cons_succ]; rfl)
    obtain ⟨NL, hNL⟩ : ∃ n, V.heap.size = n := ⟨_, rfl⟩
    have lNL : w.heap.size + 2 ≤ NL := by have := hHeld.2.1.lt; omega
    replace hNL := hide hNL
    rw [if_pos (by rfl)]
    (with_reducible refine s_bsn 56 5 8 Tryd.underlying56 (c8 (lstG s v)) NL ?_ _ ?_ ⟨built_8 s v⟩ ?_)
    · exact hNL.out
    · kernel_rfl
    intro V hl hb' hzY
    have hH2 := hide (And.intro (hHeld.1.bl (hNL.out ▸ hb')) (And.intro (hHeld.2.1.bl (hNL.out ▸ hb')) (hHeld.2.2.trans (hb'.mono (by omega)))))
    simp only [Act.put, List.setIfInBounds_toArray, List.set_cons_zero, List.set_cons_succ]
    clear hHeld
    refine hK.out _ _ ?_ (fun hHeld => ?_)
    · exact hH2.out
    clear hK K
    clear hH2
    refine wpAnyH_take (i := 14) (oi := ?oi44) (v := .slice (some ⟨NL, 0, none⟩) 8 8) ?hi44 (by kernel_rfl) (by kernel_rfl) (by kernel_rfl) ?hQ44 ?hy44 (by assumption) ?rest44
    case hi44 => (simp only [List.getElem?_toArray, List.getElem?_cons_zero, List.getElem?_cons_succ]; rfl)
    case hQ44 => exact fun _ _ _ h => h
    case hy44 => exact Or.inl ⟨by rfl, by (intro w hSw; (try dsimp only at hSw); go_simp )⟩
    simp only [Act.put, List.setIfInBounds_toArray, List.set_cons_zero, List.set_cons_succ]
    refine wpAnyH_done (by kernel_rfl) ?_ _
    have hr := hHeld.1
    have hq := hHeld.2.1
    have hb := hHeld.2.2
    clear hHeld
    go_wp2_with (first | ((with_reducible refine ld_dm w.heap.size _ _ hr ?_ ?_); exact rfl) | ((with_reducible refine st_l1 NL _ s.dm hl ?_ ?_ ?_); exact rfl; exact rfl; intro W hnew ho; replace hr := hr.only ho (by omega); replace hq := hq.only ho (by omega); replace hl := hnew; replace hb := ho.bel _ _ (by omega) hb))
    obtain ⟨G, hG⟩ : ∃ G, (setB (lstG s v) 1 s.dm) = G := ⟨_, rfl⟩
    rw [hG] at hl
    refine wp_region_held_drew (S := (fun V => RowAt V w.heap.size s.cells 26 ∧ RowAt V NL (c8 G) 5 ∧ Below w.heap.size w V)) (by kernel_rfl) ?_ (fun hHeld => ?_)
    · exact ⟨hr.dr, hl.dr, hb.drew⟩
    replace hq := hq.dr
    generalize World.drew _ = V at hHeld hq ⊢
    clear hr hl hb
    refine wpAnyH_take (i := 0) (oi := ?oi45) (v := .agg s.cells) ?hi45 (by kernel_rfl) (by kernel_rfl) (by kernel_rfl) ?hQ45 ?hy45 (by assumption) ?rest45
    case hi45 => (simp only [List.getElem?_toArray, List.getElem?_cons_zero]; rfl)
    case hQ45 => exact fun _ _ _ h => h
    case hy45 => exact y_ur w.heap.size s (fun V hV => hV.1) rfl rfl
    simp only [Act.put, List.setIfInBounds_toArray, List.set_cons_zero, List.set_cons_succ]
    refine wpAnyH_take (i := 1) (oi := ?oi46) (v := .slice (some ⟨NL, 0, none⟩) 8 8) ?hi46 (by kernel_rfl) (by kernel_rfl) (by kernel_rfl) ?hQ46 ?hy46 (by assumption) ?rest46
    case hi46 => (simp only [List.getElem?_toArray, List.getElem?_cons_zero, List.getElem?_cons_succ]; rfl)
    case hQ46 => exact fun _ _ _ h => h
    case hy46 => exact Or.inl ⟨by rfl, by (intro w hSw; (try dsimp only at hSw); go_simp )⟩
    simp only [Act.put, List.setIfInBounds_toArray, List.set_cons_zero, List.set_cons_succ]
    refine wpAnyH_take (i := 2) (oi := ?oi47) (v := .int .u32 (a : Nat)) ?hi47 (by kernel_rfl) (by kernel_rfl) (by kernel_rfl) ?hQ47 ?hy47 (by assumption) ?rest47
    case hi47 => (simp only [List.getElem?_toArray, List.getElem?_cons_zero, List.getElem?_cons_succ]; rfl)
    case hQ47 => exact fun _ _ _ h => h
    case hy47 => exact Or.inl ⟨by rfl, by (intro w hSw; (try dsimp only at hSw); go_simp )⟩
    simp only [Act.put, List.setIfInBounds_toArray, List.set_cons_zero, List.set_cons_succ]
    refine wpAnyH_take (i := 3) (oi := ?oi48) (v := .pointer (some ⟨NL, a, none⟩)) ?hi48 (by kernel_rfl) (by kernel_rfl) (by kernel_rfl) ?hQ48 ?hy48 (by assumption) ?rest48
    case hi48 => (simp only [List.getElem?_toArray, List.getElem?_cons_zero, List.getElem?_cons_succ]; rfl)
    case hQ48 => exact fun _ _ _ h => h
    case hy48 => exact Or.inl ⟨by rfl, by (intro w hSw; (try dsimp only at hSw); go_simp )⟩
    simp only [Act.put, List.setIfInBounds_toArray, List.set_cons_zero, List.set_cons_succ]
    refine wpAnyH_take (i := 4) (oi := ?oi49) (v := .int .u8 (G a : Nat)) ?hi49 (by kernel_rfl) (by kernel_rfl) (by kernel_rfl) ?hQ49 ?hy49 (by assumption) ?rest49
    case hi49 => (simp only [List.getElem?_toArray, List.getElem?_cons_zero, List.getElem?_cons_succ]; rfl)
    case hQ49 => exact fun _ _ _ h => h
    case hy49 => exact y_8 NL a _ (fun V hV => (hV.2.1.cell a).trans (c8_at G a h8)) rfl
    simp only [Act.put, List.setIfInBounds_toArray, List.set_cons_zero, List.set_cons_succ]
    refine wpAnyH_ready (rs := [5]) (by kernel_rfl) (by simp) ?_
    refine AllReadyH.cons (o := ?oi50) ?hi50 (fun K hK => ?_) AllReadyH.nil
    case hi50 => (simp only [List.getElem?_toArray, List.getElem?_cons_zero, List.getElem?_cons_succ]; rfl)
    rw [if_pos (by rfl)]
    (with_reducible refine s_ur (w.heap.size + 1) _ s hq ?_ ?_ ?_)
    · exact rfl
    · exact rfl
    intro V hnew ho
    have hH2 := hide (And.intro (hHeld.1.only ho (by omega)) (And.intro (hHeld.2.1.only ho (by omega)) (ho.bel _ _ (by omega) hHeld.2.2)))
    replace hq := hnew
    clear hHeld hnew ho
    refine hK.out _ _ ?_ (fun hHeld => ?_)
    · exact hH2.out
    clear hK K
    clear hH2
    refine wpAnyH_take (i := 6) (oi := ?oi51) (v := .int .u8 (G a : Nat)) ?hi51 (by kernel_rfl) (by kernel_rfl) (by kernel_rfl) ?hQ51 ?hy51 (by assumption) ?rest51
    case hi51 => (simp only [List.getElem?_toArray, List.getElem?_cons_zero, List.getElem?_cons_succ]; rfl)
    case hQ51 => exact fun _ _ _ h => h
    case hy51 => exact Or.inl ⟨by rfl, by (intro w hSw; (try dsimp only at hSw); go_simp )⟩
    simp only [Act.put, List.setIfInBounds_toArray, List.set_cons_zero, List.set_cons_succ]
    refine wpAnyH_take (i := 7) (oi := ?oi52) (v := .int .i64 0) ?hi52 (by kernel_rfl) (by kernel_rfl) (by kernel_rfl) ?hQ52 ?hy52 (by assumption) ?rest52
    case hi52 => (simp only [List.getElem?_toArray, List.getElem?_cons_zero, List.getElem?_cons_succ]; rfl)
    case hQ52 => exact fun _ _ _ h => h
    case hy52 => exact Or.inl ⟨by rfl, by (intro w hSw; (try dsimp only at hSw); go_simp )⟩
    simp only [Act.put, List.setIfInBounds_toArray, List.set_cons_zero, List.set_cons_succ]
    refine wpAnyH_done (by kernel_rfl) ?_ _
    have hb := hHeld.2.2
    clear hHeld
    go_wp2
    refine bodyPost_ret (results_cell_two Tryd.results7 _ _ (w.heap.size + 1) _ _ _ rfl hq Tryd.underlying26 rfl size_ur) rfl ?_
    exact ⟨by rw [← hG]; rfl, hb⟩

set_option maxRecDepth 20000 in
set_option maxHeartbeats 2000000 in
theorem rread_nt (s : U) (ok : s.Ok) (a : Nat) (h7 : 7 < a) (hm : mayU s = true) (hd : dlB s = true) (w : World) :
    Calls Tryd.prog 7 #[.agg s.cells, .int .u32 (a : Nat)] w fun e w' => e = .returned (.tuple #[.agg (readV s a).1.cells, .int .u8 ((readV s a).2.1 : Nat), .int .i64 ((readV s a).2.2 : Nat)]) ∧ Below w.heap.size w w' := by
  have HV : readV s a = (zeroU, 0, 20) := by unfold readV readS; rw [if_pos hm, if_neg (by omega), if_neg (by omega), if_neg (by omega), if_neg (by omega), if_neg (by omega), if_neg (by omega), if_neg (by omega), if_neg (by omega)]
  rw [HV]; clear HV
  have HA := hide (fun w => rasks_any s ok (mayF.n0 ((mayU_iff s).1 hm).rx) w)
  have hv8 := asksN_8 s
  generalize asksN s = v at HA hv8 ⊢
  have v8 : (v : Int) < 8 := by omega
  have HC := hide (fun w => rcheck_ok s ok hm w)
  have d1 : (128 : Int) ≤ (s.lc : Int) := by unfold dlB at hd; have := of_decide_eq_true hd; omega
  have a5 : ((a : Int) == 5) = false := by simp; omega
  have a7 : (a : Int) > 7 := by omega
  have a0 : ((a : Int) == 0) = false := by simp; omega
  go_enter Tryd.func7, Tryd.ntmps7
  go_wp2_with (first | ((with_reducible refine bx_ur w.heap.size s ?_ ?_ ?_); exact rfl; exact rfl; intro W hr hb hz) | ((with_reducible refine al_ur (w.heap.size + 1) ?_ ?_); exact hz.out; intro W hq hb' hz'; replace hr := hr.bl (hz.out ▸ hb'); replace hb := hb.trans (hb'.mono (by omega)); replace hz := hz') | (go_at_call 8; (with_reducible refine (HC.out _).mono ?_); rintro e W ⟨rfl, hbc⟩; replace hr := hr.bl hbc; replace hq := hq.bl hbc; replace hb := below_bl rfl hb hbc) | ((with_reducible refine ld_ur w.heap.size _ hr ?_ ?_ ?_); exact rfl; exact rfl) | ((with_reducible refine ld_lc w.heap.size _ _ hr ?_ ?_); exact rfl))
  refine wp_region_held_drew (S := (fun V => RowAt V w.heap.size s.cells 26 ∧ RowAt V (w.heap.size + 1) zeroU.cells 26 ∧ Below w.heap.size w V)) (by kernel_rfl) ?_ (fun hHeld => ?_)
  · exact ⟨hr.dr, hq.dr, hb.drew⟩
  generalize World.drew _ = V at hHeld ⊢
  clear hr hq hb
  refine wpAnyH_take (i := 0) (oi := ?oi53) (v := .pointer (some ⟨w.heap.size, 38, none⟩)) ?hi53 (by kernel_rfl) (by kernel_rfl) (by kernel_rfl) ?hQ53 ?hy53 (by assumption) ?rest53
  case hi53 => (simp only [List.getElem?_toArray, List.getElem?_cons_zero]; rfl)
  case hQ53 => exact fun _ _ _ h => h
  case hy53 => exact Or.inl ⟨by rfl, by (intro w hSw; (try dsimp only at hSw); go_simp )⟩
  simp only [Act.put, List.setIfInBounds_toArray, List.set_cons_zero, List.set_cons_succ]
  refine wpAnyH_take (i := 1) (oi := ?oi54) (v := .int .u8 (s.dl : Nat)) ?hi54 (by kernel_rfl) (by kernel_rfl) (by kernel_rfl) ?hQ54 ?hy54 (by assumption) ?rest54
  case hi54 => (simp only [List.getElem?_toArray, List.getElem?_cons_zero, List.getElem?_cons_succ]; rfl)
  case hQ54 => exact fun _ _ _ h => h
  case hy54 => exact y_dl w.heap.size s _ (fun V hV => hV.1) rfl
  simp only [Act.put, List.setIfInBounds_toArray, List.set_cons_zero, List.set_cons_succ]
  refine wpAnyH_take (i := 2) (oi := ?oi55) (v := .pointer (some ⟨w.heap.size, 34, none⟩)) ?hi55 (by kernel_rfl) (by kernel_rfl) (by kernel_rfl) ?hQ55 ?hy55 (by assumption) ?rest55
  case hi55 => (simp only [List.getElem?_toArray, List.getElem?_cons_zero, List.getElem?_cons_succ]; rfl)
  case hQ55 => exact fun _ _ _ h => h
  case hy55 => exact Or.inl ⟨by rfl, by (intro w hSw; (try dsimp only at hSw); go_simp )⟩
  simp only [Act.put, List.setIfInBounds_toArray, List.set_cons_zero, List.set_cons_succ]
  refine wpAnyH_take (i := 3) (oi := ?oi56) (v := .int .u8 (s.ie : Nat)) ?hi56 (by kernel_rfl) (by kernel_rfl) (by kernel_rfl) ?hQ56 ?hy56 (by assumption) ?rest56
  case hi56 => (simp only [List.getElem?_toArray, List.getElem?_cons_zero, List.getElem?_cons_succ]; rfl)
  case hQ56 => exact fun _ _ _ h => h
  case hy56 => exact y_ie w.heap.size s _ (fun V hV => hV.1) rfl
  simp only [Act.put, List.setIfInBounds_toArray, List.set_cons_zero, List.set_cons_succ]
  refine wpAnyH_take (i := 4) (oi := ?oi57) (v := .agg s.cells) ?hi57 (by kernel_rfl) (by kernel_rfl) (by kernel_rfl) ?hQ57 ?hy57 (by assumption) ?rest57
  case hi57 => (simp only [List.getElem?_toArray, List.getElem?_cons_zero, List.getElem?_cons_succ]; rfl)
  case hQ57 => exact fun _ _ _ h => h
  case hy57 => exact y_ur w.heap.size s (fun V hV => hV.1) rfl rfl
  simp only [Act.put, List.setIfInBounds_toArray, List.set_cons_zero, List.set_cons_succ]
  refine wpAnyH_take (i := 7) (oi := ?oi58) (v := .pointer (some ⟨w.heap.size, 35, none⟩)) ?hi58 (by kernel_rfl) (by kernel_rfl) (by kernel_rfl) ?hQ58 ?hy58 (by assumption) ?rest58
  case hi58 => (simp only [List.getElem?_toArray, List.getElem?_cons_zero, List.getElem?_cons_succ]; rfl)
  case hQ58 => exact fun _ _ _ h => h
  case hy58 => exact Or.inl ⟨by rfl, by (intro w hSw; (try dsimp only at hSw); go_simp )⟩
  simp only [Act.put, List.setIfInBounds_toArray, List.set_cons_zero, List.set_cons_succ]
  refine wpAnyH_take (i := 8) (oi := ?oi59) (v := .int .u8 (s.lc : Nat)) ?hi59 (by kernel_rfl) (by kernel_rfl) (by kernel_rfl) ?hQ59 ?hy59 (by assumption) ?rest59
  case hi59 => (simp only [List.getElem?_toArray, List.getElem?_cons_zero, List.getElem?_cons_succ]; rfl)
  case hQ59 => exact fun _ _ _ h => h
  case hy59 => exact y_lc w.heap.size s _ (fun V hV => hV.1) rfl
  simp only [Act.put, List.setIfInBounds_toArray, List.set_cons_zero, List.set_cons_succ]
  refine wpAnyH_take (i := 9) (oi := ?oi60) (v := .pointer (some ⟨w.heap.size, 36, none⟩)) ?hi60 (by kernel_rfl) (by kernel_rfl) (by kernel_rfl) ?hQ60 ?hy60 (by assumption) ?rest60
  case hi60 => (simp only [List.getElem?_toArray, List.getElem?_cons_zero, List.getElem?_cons_succ]; rfl)
  case hQ60 => exact fun _ _ _ h => h
  case hy60 => exact Or.inl ⟨by rfl, by (intro w hSw; (try dsimp only at hSw); go_simp )⟩
  simp only [Act.put, List.setIfInBounds_toArray, List.set_cons_zero, List.set_cons_succ]
  refine wpAnyH_take (i := 10) (oi := ?oi61) (v := .int .u8 (s.mc : Nat)) ?hi61 (by kernel_rfl) (by kernel_rfl) (by kernel_rfl) ?hQ61 ?hy61 (by assumption) ?rest61
  case hi61 => (simp only [List.getElem?_toArray, List.getElem?_cons_zero, List.getElem?_cons_succ]; rfl)
  case hQ61 => exact fun _ _ _ h => h
  case hy61 => exact y_mc w.heap.size s _ (fun V hV => hV.1) rfl
  simp only [Act.put, List.setIfInBounds_toArray, List.set_cons_zero, List.set_cons_succ]
  refine wpAnyH_take (i := 11) (oi := ?oi62) (v := .pointer (some ⟨w.heap.size, 37, none⟩)) ?hi62 (by kernel_rfl) (by kernel_rfl) (by kernel_rfl) ?hQ62 ?hy62 (by assumption) ?rest62
  case hi62 => (simp only [List.getElem?_toArray, List.getElem?_cons_zero, List.getElem?_cons_succ]; rfl)
  case hQ62 => exact fun _ _ _ h => h
  case hy62 => exact Or.inl ⟨by rfl, by (intro w hSw; (try dsimp only at hSw); go_simp )⟩
  simp only [Act.put, List.setIfInBounds_toArray, List.set_cons_zero, List.set_cons_succ]
  refine wpAnyH_take (i := 12) (oi := ?oi63) (v := .int .u8 (s.sc : Nat)) ?hi63 (by kernel_rfl) (by kernel_rfl) (by kernel_rfl) ?hQ63 ?hy63 (by assumption) ?rest63
  case hi63 => (simp only [List.getElem?_toArray, List.getElem?_cons_zero, List.getElem?_cons_succ]; rfl)
  case hQ63 => exact fun _ _ _ h => h
  case hy63 => exact y_sc w.heap.size s _ (fun V hV => hV.1) rfl
  simp only [Act.put, List.setIfInBounds_toArray, List.set_cons_zero, List.set_cons_succ]
  refine wpAnyH_ready (rs := [5]) (by kernel_rfl) (by simp) ?_
  refine AllReadyH.cons (o := ?oi64) ?hi64 (fun K hK => ?_) AllReadyH.nil
  case hi64 => (simp only [List.getElem?_toArray, List.getElem?_cons_zero, List.getElem?_cons_succ]; rfl)
  go_simp
  (with_reducible refine (HA.out _).mono ?_)
  rintro e V ⟨rfl, hbc⟩
  have hH2 := hide (And.intro (hHeld.1.bl hbc) (And.intro (hHeld.2.1.bl hbc) (below_bl rfl hHeld.2.2 hbc)))
  clear hHeld hbc
  go_simp
  refine hK.out _ _ ?_ (fun hHeld => ?_)
  · exact hH2.out
  clear hK K
  clear hH2
  refine wpAnyH_take (i := 6) (oi := ?oi65) (v := .int .u8 (192 + (v : Nat))) ?hi65 (by kernel_rfl) (by kernel_rfl) (by kernel_rfl) ?hQ65 ?hy65 (by assumption) ?rest65
  case hi65 => (simp only [List.getElem?_toArray, List.getElem?_cons_zero, List.getElem?_cons_succ]; rfl)
  case hQ65 => exact fun _ _ _ h => h
  case hy65 => exact Or.inl ⟨by rfl, by (intro w hSw; (try dsimp only at hSw); go_simp ; exact w192 v hv8)⟩
  simp only [Act.put, List.setIfInBounds_toArray, List.set_cons_zero, List.set_cons_succ]
  refine wpAnyH_ready (rs := [13]) (by kernel_rfl) (by simp) ?_
  refine AllReadyH.cons (o := ?oi66) ?hi66 (fun K hK => ?_) AllReadyH.nil
  case hi66 => (simp only [List.getElem?_toArray, List.getElem?_cons_zero, List.getElem?_cons_succ]; rfl)
  obtain ⟨NL, hNL⟩ : ∃ n, V.heap.size = n := ⟨_, rfl⟩
  have lNL : w.heap.size + 2 ≤ NL := by have := hHeld.2.1.lt; omega
  replace hNL := hide hNL
  rw [if_pos (by rfl)]
  (with_reducible refine s_bsn 56 5 8 Tryd.underlying56 (c8 (lstG s v)) NL ?_ _ ?_ ⟨built_8 s v⟩ ?_)
  · exact hNL.out
  · kernel_rfl
  intro V hl hb' hzY
  have hH2 := hide (And.intro (hHeld.1.bl (hNL.out ▸ hb')) (And.intro (hHeld.2.1.bl (hNL.out ▸ hb')) (hHeld.2.2.trans (hb'.mono (by omega)))))
  simp only [Act.put, List.setIfInBounds_toArray, List.set_cons_zero, List.set_cons_succ]
  clear hHeld
  refine hK.out _ _ ?_ (fun hHeld => ?_)
  · exact hH2.out
  clear hK K
  clear hH2
  refine wpAnyH_take (i := 14) (oi := ?oi67) (v := .slice (some ⟨NL, 0, none⟩) 8 8) ?hi67 (by kernel_rfl) (by kernel_rfl) (by kernel_rfl) ?hQ67 ?hy67 (by assumption) ?rest67
  case hi67 => (simp only [List.getElem?_toArray, List.getElem?_cons_zero, List.getElem?_cons_succ]; rfl)
  case hQ67 => exact fun _ _ _ h => h
  case hy67 => exact Or.inl ⟨by rfl, by (intro w hSw; (try dsimp only at hSw); go_simp )⟩
  simp only [Act.put, List.setIfInBounds_toArray, List.set_cons_zero, List.set_cons_succ]
  refine wpAnyH_done (by kernel_rfl) ?_ _
  have hr := hHeld.1
  have hq := hHeld.2.1
  have hb := hHeld.2.2
  clear hHeld
  go_wp2_with (first | ((with_reducible refine ld_dm w.heap.size _ _ hr ?_ ?_); exact rfl) | ((with_reducible refine st_l1 NL _ s.dm hl ?_ ?_ ?_); exact rfl; exact rfl; intro W hnew ho; replace hr := hr.only ho (by omega); replace hq := hq.only ho (by omega); replace hl := hnew; replace hb := ho.bel _ _ (by omega) hb) | ((with_reducible refine st_ur (w.heap.size + 1) _ zeroU hq ?_ ?_ ?_); exact rfl; exact rfl; intro W hnew ho; replace hr := hr.only ho (by omega); replace hq := hnew; replace hb := ho.bel _ _ (by omega) hb))
  refine bodyPost_ret (results_cell_two Tryd.results7 _ _ (w.heap.size + 1) _ _ _ rfl hq Tryd.underlying26 rfl size_ur) rfl ?_
  exact ⟨rfl, hb⟩

set_option maxRecDepth 20000 in
set_option maxHeartbeats 2000000 in
theorem rread_lf (s : U) (ok : s.Ok) (a : Nat) (h7 : a ≤ 7) (h5 : a ≠ 5) (n0 : a ≠ 0) (hm : mayU s = true) (hd : dlB s = false) (w : World) :
    Calls Tryd.prog 7 #[.agg s.cells, .int .u32 (a : Nat)] w fun e w' => e = .returned (.tuple #[.agg (readV s a).1.cells, .int .u8 ((readV s a).2.1 : Nat), .int .i64 ((readV s a).2.2 : Nat)]) ∧ Below w.heap.size w w' := by
  have HV : readV s a = (s, (lstG s (asksN s)) a, 0) := by have := list_at s hm a h7 h5 (fun _ => n0); rw [hd] at this; exact this
  rw [HV]; clear HV
  have HA := hide (fun w => rasks_any s ok (mayF.n0 ((mayU_iff s).1 hm).rx) w)
  have hv8 := asksN_8 s
  generalize asksN s = v at HA hv8 ⊢
  have v8 : (v : Int) < 8 := by omega
  have HC := hide (fun w => rcheck_ok s ok hm w)
  have d1 : decide ((128 : Int) ≤ (s.lc : Int)) = false := by unfold dlB at hd; have := of_decide_eq_false hd; simp; omega
  have d2 : decide (128 ≤ s.lc) = false := hd
  have a5 : ((a : Int) == 5) = false := by simp; omega
  have a7 : decide ((a : Int) > 7) = false := by simp; omega
  have a7n : decide (7 < a) = false := by simp; omega
  have h8 : a < 8 := by omega
  have a8 : (a : Int) < 8 := by omega
  have a0 : ((a : Int) == 0) = false := by simp; omega
  have HG : Hid (0 = 0) := hide rfl
  clear h5 h7 hm hd
  go_enter Tryd.func7, Tryd.ntmps7
  go_wp2_with (first | ((with_reducible refine bx_ur w.heap.size s ?_ ?_ ?_); exact rfl; exact rfl; intro W hr hb hz) | ((with_reducible refine al_ur (w.heap.size + 1) ?_ ?_); exact hz.out; intro W hq hb' hz'; replace hr := hr.bl (hz.out ▸ hb'); replace hb := hb.trans (hb'.mono (by omega)); replace hz := hz') | (go_at_call 8; (with_reducible refine (HC.out _).mono ?_); rintro e W ⟨rfl, hbc⟩; replace hr := hr.bl hbc; replace hq := hq.bl hbc; replace hb := below_bl rfl hb hbc) | ((with_reducible refine ld_ur w.heap.size _ hr ?_ ?_ ?_); exact rfl; exact rfl) | ((with_reducible refine ld_lc w.heap.size _ _ hr ?_ ?_); exact rfl))
  refine wp_region_held_drew (S := (fun V => RowAt V w.heap.size s.cells 26 ∧ RowAt V (w.heap.size + 1) zeroU.cells 26 ∧ Below w.heap.size w V)) (by kernel_rfl) ?_ (fun hHeld => ?_)
  · exact ⟨hr.dr, hq.dr, hb.drew⟩
  generalize World.drew _ = V at hHeld ⊢
  clear hr hq hb
  refine wpAnyH_take (i := 0) (oi := ?oi68) (v := .pointer (some ⟨w.heap.size, 38, none⟩)) ?hi68 (by kernel_rfl) (by kernel_rfl) (by kernel_rfl) ?hQ68 ?hy68 (by assumption) ?rest68
  case hi68 => (simp only [List.getElem?_toArray, List.getElem?_cons_zero]; rfl)
  case hQ68 => exact fun _ _ _ h => h
  case hy68 => exact Or.inl ⟨by rfl, by (intro w hSw; (try dsimp only at hSw); go_simp )⟩
  simp only [Act.put, List.setIfInBounds_toArray, List.set_cons_zero, List.set_cons_succ]
  refine wpAnyH_take (i := 1) (oi := ?oi69) (v := .int .u8 (s.dl : Nat)) ?hi69 (by kernel_rfl) (by kernel_rfl) (by kernel_rfl) ?hQ69 ?hy69 (by assumption) ?rest69
  case hi69 => (simp only [List.getElem?_toArray, List.getElem?_cons_zero, List.getElem?_cons_succ]; rfl)
  case hQ69 => exact fun _ _ _ h => h
  case hy69 => exact y_dl w.heap.size s _ (fun V hV => hV.1) rfl
  simp only [Act.put, List.setIfInBounds_toArray, List.set_cons_zero, List.set_cons_succ]
  refine wpAnyH_take (i := 2) (oi := ?oi70) (v := .pointer (some ⟨w.heap.size, 34, none⟩)) ?hi70 (by kernel_rfl) (by kernel_rfl) (by kernel_rfl) ?hQ70 ?hy70 (by assumption) ?rest70
  case hi70 => (simp only [List.getElem?_toArray, List.getElem?_cons_zero, List.getElem?_cons_succ]; rfl)
  case hQ70 => exact fun _ _ _ h => h
  case hy70 => exact Or.inl ⟨by rfl, by (intro w hSw; (try dsimp only at hSw); go_simp )⟩
  simp only [Act.put, List.setIfInBounds_toArray, List.set_cons_zero, List.set_cons_succ]
  refine wpAnyH_take (i := 3) (oi := ?oi71) (v := .int .u8 (s.ie : Nat)) ?hi71 (by kernel_rfl) (by kernel_rfl) (by kernel_rfl) ?hQ71 ?hy71 (by assumption) ?rest71
  case hi71 => (simp only [List.getElem?_toArray, List.getElem?_cons_zero, List.getElem?_cons_succ]; rfl)
  case hQ71 => exact fun _ _ _ h => h
  case hy71 => exact y_ie w.heap.size s _ (fun V hV => hV.1) rfl
  simp only [Act.put, List.setIfInBounds_toArray, List.set_cons_zero, List.set_cons_succ]
  refine wpAnyH_take (i := 4) (oi := ?oi72) (v := .agg s.cells) ?hi72 (by kernel_rfl) (by kernel_rfl) (by kernel_rfl) ?hQ72 ?hy72 (by assumption) ?rest72
  case hi72 => (simp only [List.getElem?_toArray, List.getElem?_cons_zero, List.getElem?_cons_succ]; rfl)
  case hQ72 => exact fun _ _ _ h => h
  case hy72 => exact y_ur w.heap.size s (fun V hV => hV.1) rfl rfl
  simp only [Act.put, List.setIfInBounds_toArray, List.set_cons_zero, List.set_cons_succ]
  refine wpAnyH_take (i := 7) (oi := ?oi73) (v := .pointer (some ⟨w.heap.size, 35, none⟩)) ?hi73 (by kernel_rfl) (by kernel_rfl) (by kernel_rfl) ?hQ73 ?hy73 (by assumption) ?rest73
  case hi73 => (simp only [List.getElem?_toArray, List.getElem?_cons_zero, List.getElem?_cons_succ]; rfl)
  case hQ73 => exact fun _ _ _ h => h
  case hy73 => exact Or.inl ⟨by rfl, by (intro w hSw; (try dsimp only at hSw); go_simp )⟩
  simp only [Act.put, List.setIfInBounds_toArray, List.set_cons_zero, List.set_cons_succ]
  refine wpAnyH_take (i := 8) (oi := ?oi74) (v := .int .u8 (s.lc : Nat)) ?hi74 (by kernel_rfl) (by kernel_rfl) (by kernel_rfl) ?hQ74 ?hy74 (by assumption) ?rest74
  case hi74 => (simp only [List.getElem?_toArray, List.getElem?_cons_zero, List.getElem?_cons_succ]; rfl)
  case hQ74 => exact fun _ _ _ h => h
  case hy74 => exact y_lc w.heap.size s _ (fun V hV => hV.1) rfl
  simp only [Act.put, List.setIfInBounds_toArray, List.set_cons_zero, List.set_cons_succ]
  refine wpAnyH_take (i := 9) (oi := ?oi75) (v := .pointer (some ⟨w.heap.size, 36, none⟩)) ?hi75 (by kernel_rfl) (by kernel_rfl) (by kernel_rfl) ?hQ75 ?hy75 (by assumption) ?rest75
  case hi75 => (simp only [List.getElem?_toArray, List.getElem?_cons_zero, List.getElem?_cons_succ]; rfl)
  case hQ75 => exact fun _ _ _ h => h
  case hy75 => exact Or.inl ⟨by rfl, by (intro w hSw; (try dsimp only at hSw); go_simp )⟩
  simp only [Act.put, List.setIfInBounds_toArray, List.set_cons_zero, List.set_cons_succ]
  refine wpAnyH_take (i := 10) (oi := ?oi76) (v := .int .u8 (s.mc : Nat)) ?hi76 (by kernel_rfl) (by kernel_rfl) (by kernel_rfl) ?hQ76 ?hy76 (by assumption) ?rest76
  case hi76 => (simp only [List.getElem?_toArray, List.getElem?_cons_zero, List.getElem?_cons_succ]; rfl)
  case hQ76 => exact fun _ _ _ h => h
  case hy76 => exact y_mc w.heap.size s _ (fun V hV => hV.1) rfl
  simp only [Act.put, List.setIfInBounds_toArray, List.set_cons_zero, List.set_cons_succ]
  refine wpAnyH_take (i := 11) (oi := ?oi77) (v := .pointer (some ⟨w.heap.size, 37, none⟩)) ?hi77 (by kernel_rfl) (by kernel_rfl) (by kernel_rfl) ?hQ77 ?hy77 (by assumption) ?rest77
  case hi77 => (simp only [List.getElem?_toArray, List.getElem?_cons_zero, List.getElem?_cons_succ]; rfl)
  case hQ77 => exact fun _ _ _ h => h
  case hy77 => exact Or.inl ⟨by rfl, by (intro w hSw; (try dsimp only at hSw); go_simp )⟩
  simp only [Act.put, List.setIfInBounds_toArray, List.set_cons_zero, List.set_cons_succ]
  refine wpAnyH_take (i := 12) (oi := ?oi78) (v := .int .u8 (s.sc : Nat)) ?hi78 (by kernel_rfl) (by kernel_rfl) (by kernel_rfl) ?hQ78 ?hy78 (by assumption) ?rest78
  case hi78 => (simp only [List.getElem?_toArray, List.getElem?_cons_zero, List.getElem?_cons_succ]; rfl)
  case hQ78 => exact fun _ _ _ h => h
  case hy78 => exact y_sc w.heap.size s _ (fun V hV => hV.1) rfl
  simp only [Act.put, List.setIfInBounds_toArray, List.set_cons_zero, List.set_cons_succ]
  refine wpAnyH_ready (rs := [5]) (by kernel_rfl) (by simp) ?_
  refine AllReadyH.cons (o := ?oi79) ?hi79 (fun K hK => ?_) AllReadyH.nil
  case hi79 => (simp only [List.getElem?_toArray, List.getElem?_cons_zero, List.getElem?_cons_succ]; rfl)
  go_simp
  (with_reducible refine (HA.out _).mono ?_)
  rintro e V ⟨rfl, hbc⟩
  have hH2 := hide (And.intro (hHeld.1.bl hbc) (And.intro (hHeld.2.1.bl hbc) (below_bl rfl hHeld.2.2 hbc)))
  clear hHeld hbc
  go_simp
  refine hK.out _ _ ?_ (fun hHeld => ?_)
  · exact hH2.out
  clear hK K
  clear hH2
  refine wpAnyH_take (i := 6) (oi := ?oi80) (v := .int .u8 (192 + (v : Nat))) ?hi80 (by kernel_rfl) (by kernel_rfl) (by kernel_rfl) ?hQ80 ?hy80 (by assumption) ?rest80
  case hi80 => (simp only [List.getElem?_toArray, List.getElem?_cons_zero, List.getElem?_cons_succ]; rfl)
  case hQ80 => exact fun _ _ _ h => h
  case hy80 => exact Or.inl ⟨by rfl, by (intro w hSw; (try dsimp only at hSw); go_simp ; exact w192 v hv8)⟩
  simp only [Act.put, List.setIfInBounds_toArray, List.set_cons_zero, List.set_cons_succ]
  refine wpAnyH_ready (rs := [13]) (by kernel_rfl) (by simp) ?_
  refine AllReadyH.cons (o := ?oi81) ?hi81 (fun K hK => ?_) AllReadyH.nil
  case hi81 => (simp only [List.getElem?_toArray, List.getElem?_cons_zero, List.getElem?_cons_succ]; rfl)
  obtain ⟨NL, hNL⟩ : ∃ n, V.heap.size = n := ⟨_, rfl⟩
  have lNL : w.heap.size + 2 ≤ NL := by have := hHeld.2.1.lt; omega
  replace hNL := hide hNL
  rw [if_pos (by rfl)]
  (with_reducible refine s_bsn 56 5 8 Tryd.underlying56 (c8 (lstG s v)) NL ?_ _ ?_ ⟨built_8 s v⟩ ?_)
  · exact hNL.out
  · kernel_rfl
  intro V hl hb' hzY
  have hH2 := hide (And.intro (hHeld.1.bl (hNL.out ▸ hb')) (And.intro (hHeld.2.1.bl (hNL.out ▸ hb')) (hHeld.2.2.trans (hb'.mono (by omega)))))
  simp only [Act.put, List.setIfInBounds_toArray, List.set_cons_zero, List.set_cons_succ]
  clear hHeld
  refine hK.out _ _ ?_ (fun hHeld => ?_)
  · exact hH2.out
  clear hK K
  clear hH2
  refine wpAnyH_take (i := 14) (oi := ?oi82) (v := .slice (some ⟨NL, 0, none⟩) 8 8) ?hi82 (by kernel_rfl) (by kernel_rfl) (by kernel_rfl) ?hQ82 ?hy82 (by assumption) ?rest82
  case hi82 => (simp only [List.getElem?_toArray, List.getElem?_cons_zero, List.getElem?_cons_succ]; rfl)
  case hQ82 => exact fun _ _ _ h => h
  case hy82 => exact Or.inl ⟨by rfl, by (intro w hSw; (try dsimp only at hSw); go_simp )⟩
  simp only [Act.put, List.setIfInBounds_toArray, List.set_cons_zero, List.set_cons_succ]
  refine wpAnyH_done (by kernel_rfl) ?_ _
  have hr := hHeld.1
  have hq := hHeld.2.1
  have hb := hHeld.2.2
  clear hHeld
  go_wp2_with (first | ((with_reducible refine ld_dm w.heap.size _ _ hr ?_ ?_); exact rfl))
  obtain ⟨G, hG⟩ : ∃ G, (lstG s v) = G := ⟨_, rfl⟩
  rw [hG] at hl
  refine wp_region_held_drew (S := (fun V => RowAt V w.heap.size s.cells 26 ∧ RowAt V NL (c8 G) 5 ∧ Below w.heap.size w V)) (by kernel_rfl) ?_ (fun hHeld => ?_)
  · exact ⟨hr.dr, hl.dr, hb.drew⟩
  replace hq := hq.dr
  generalize World.drew _ = V at hHeld hq ⊢
  clear hr hl hb
  refine wpAnyH_take (i := 0) (oi := ?oi83) (v := .agg s.cells) ?hi83 (by kernel_rfl) (by kernel_rfl) (by kernel_rfl) ?hQ83 ?hy83 (by assumption) ?rest83
  case hi83 => (simp only [List.getElem?_toArray, List.getElem?_cons_zero]; rfl)
  case hQ83 => exact fun _ _ _ h => h
  case hy83 => exact y_ur w.heap.size s (fun V hV => hV.1) rfl rfl
  simp only [Act.put, List.setIfInBounds_toArray, List.set_cons_zero, List.set_cons_succ]
  refine wpAnyH_take (i := 1) (oi := ?oi84) (v := .slice (some ⟨NL, 0, none⟩) 8 8) ?hi84 (by kernel_rfl) (by kernel_rfl) (by kernel_rfl) ?hQ84 ?hy84 (by assumption) ?rest84
  case hi84 => (simp only [List.getElem?_toArray, List.getElem?_cons_zero, List.getElem?_cons_succ]; rfl)
  case hQ84 => exact fun _ _ _ h => h
  case hy84 => exact Or.inl ⟨by rfl, by (intro w hSw; (try dsimp only at hSw); go_simp )⟩
  simp only [Act.put, List.setIfInBounds_toArray, List.set_cons_zero, List.set_cons_succ]
  refine wpAnyH_take (i := 2) (oi := ?oi85) (v := .int .u32 (a : Nat)) ?hi85 (by kernel_rfl) (by kernel_rfl) (by kernel_rfl) ?hQ85 ?hy85 (by assumption) ?rest85
  case hi85 => (simp only [List.getElem?_toArray, List.getElem?_cons_zero, List.getElem?_cons_succ]; rfl)
  case hQ85 => exact fun _ _ _ h => h
  case hy85 => exact Or.inl ⟨by rfl, by (intro w hSw; (try dsimp only at hSw); go_simp )⟩
  simp only [Act.put, List.setIfInBounds_toArray, List.set_cons_zero, List.set_cons_succ]
  refine wpAnyH_take (i := 3) (oi := ?oi86) (v := .pointer (some ⟨NL, a, none⟩)) ?hi86 (by kernel_rfl) (by kernel_rfl) (by kernel_rfl) ?hQ86 ?hy86 (by assumption) ?rest86
  case hi86 => (simp only [List.getElem?_toArray, List.getElem?_cons_zero, List.getElem?_cons_succ]; rfl)
  case hQ86 => exact fun _ _ _ h => h
  case hy86 => exact Or.inl ⟨by rfl, by (intro w hSw; (try dsimp only at hSw); go_simp )⟩
  simp only [Act.put, List.setIfInBounds_toArray, List.set_cons_zero, List.set_cons_succ]
  refine wpAnyH_take (i := 4) (oi := ?oi87) (v := .int .u8 (G a : Nat)) ?hi87 (by kernel_rfl) (by kernel_rfl) (by kernel_rfl) ?hQ87 ?hy87 (by assumption) ?rest87
  case hi87 => (simp only [List.getElem?_toArray, List.getElem?_cons_zero, List.getElem?_cons_succ]; rfl)
  case hQ87 => exact fun _ _ _ h => h
  case hy87 => exact y_8 NL a _ (fun V hV => (hV.2.1.cell a).trans (c8_at G a h8)) rfl
  simp only [Act.put, List.setIfInBounds_toArray, List.set_cons_zero, List.set_cons_succ]
  refine wpAnyH_ready (rs := [5]) (by kernel_rfl) (by simp) ?_
  refine AllReadyH.cons (o := ?oi88) ?hi88 (fun K hK => ?_) AllReadyH.nil
  case hi88 => (simp only [List.getElem?_toArray, List.getElem?_cons_zero, List.getElem?_cons_succ]; rfl)
  rw [if_pos (by rfl)]
  (with_reducible refine s_ur (w.heap.size + 1) _ s hq ?_ ?_ ?_)
  · exact rfl
  · exact rfl
  intro V hnew ho
  have hH2 := hide (And.intro (hHeld.1.only ho (by omega)) (And.intro (hHeld.2.1.only ho (by omega)) (ho.bel _ _ (by omega) hHeld.2.2)))
  replace hq := hnew
  clear hHeld hnew ho
  refine hK.out _ _ ?_ (fun hHeld => ?_)
  · exact hH2.out
  clear hK K
  clear hH2
  refine wpAnyH_take (i := 6) (oi := ?oi89) (v := .int .u8 (G a : Nat)) ?hi89 (by kernel_rfl) (by kernel_rfl) (by kernel_rfl) ?hQ89 ?hy89 (by assumption) ?rest89
  case hi89 => (simp only [List.getElem?_toArray, List.getElem?_cons_zero, List.getElem?_cons_succ]; rfl)
  case hQ89 => exact fun _ _ _ h => h
  case hy89 => exact Or.inl ⟨by rfl, by (intro w hSw; (try dsimp only at hSw); go_simp )⟩
  simp only [Act.put, List.setIfInBounds_toArray, List.set_cons_zero, List.set_cons_succ]
  refine wpAnyH_take (i := 7) (oi := ?oi90) (v := .int .i64 0) ?hi90 (by kernel_rfl) (by kernel_rfl) (by kernel_rfl) ?hQ90 ?hy90 (by assumption) ?rest90
  case hi90 => (simp only [List.getElem?_toArray, List.getElem?_cons_zero, List.getElem?_cons_succ]; rfl)
  case hQ90 => exact fun _ _ _ h => h
  case hy90 => exact Or.inl ⟨by rfl, by (intro w hSw; (try dsimp only at hSw); go_simp )⟩
  simp only [Act.put, List.setIfInBounds_toArray, List.set_cons_zero, List.set_cons_succ]
  refine wpAnyH_done (by kernel_rfl) ?_ _
  have hb := hHeld.2.2
  clear hHeld
  go_wp2
  refine bodyPost_ret (results_cell_two Tryd.results7 _ _ (w.heap.size + 1) _ _ _ rfl hq Tryd.underlying26 rfl size_ur) rfl ?_
  exact ⟨by rw [← hG]; rfl, hb⟩

set_option maxRecDepth 20000 in
set_option maxHeartbeats 2000000 in
theorem rread_nf (s : U) (ok : s.Ok) (a : Nat) (h7 : 7 < a) (hm : mayU s = true) (hd : dlB s = false) (w : World) :
    Calls Tryd.prog 7 #[.agg s.cells, .int .u32 (a : Nat)] w fun e w' => e = .returned (.tuple #[.agg (readV s a).1.cells, .int .u8 ((readV s a).2.1 : Nat), .int .i64 ((readV s a).2.2 : Nat)]) ∧ Below w.heap.size w w' := by
  have HV : readV s a = (zeroU, 0, 20) := by unfold readV readS; rw [if_pos hm, if_neg (by omega), if_neg (by omega), if_neg (by omega), if_neg (by omega), if_neg (by omega), if_neg (by omega), if_neg (by omega), if_neg (by omega)]
  rw [HV]; clear HV
  have HA := hide (fun w => rasks_any s ok (mayF.n0 ((mayU_iff s).1 hm).rx) w)
  have hv8 := asksN_8 s
  generalize asksN s = v at HA hv8 ⊢
  have v8 : (v : Int) < 8 := by omega
  have HC := hide (fun w => rcheck_ok s ok hm w)
  have d1 : decide ((128 : Int) ≤ (s.lc : Int)) = false := by unfold dlB at hd; have := of_decide_eq_false hd; simp; omega
  have d2 : decide (128 ≤ s.lc) = false := hd
  have a5 : ((a : Int) == 5) = false := by simp; omega
  have a7 : (a : Int) > 7 := by omega
  have a0 : ((a : Int) == 0) = false := by simp; omega
  go_enter Tryd.func7, Tryd.ntmps7
  go_wp2_with (first | ((with_reducible refine bx_ur w.heap.size s ?_ ?_ ?_); exact rfl; exact rfl; intro W hr hb hz) | ((with_reducible refine al_ur (w.heap.size + 1) ?_ ?_); exact hz.out; intro W hq hb' hz'; replace hr := hr.bl (hz.out ▸ hb'); replace hb := hb.trans (hb'.mono (by omega)); replace hz := hz') | (go_at_call 8; (with_reducible refine (HC.out _).mono ?_); rintro e W ⟨rfl, hbc⟩; replace hr := hr.bl hbc; replace hq := hq.bl hbc; replace hb := below_bl rfl hb hbc) | ((with_reducible refine ld_ur w.heap.size _ hr ?_ ?_ ?_); exact rfl; exact rfl) | ((with_reducible refine ld_lc w.heap.size _ _ hr ?_ ?_); exact rfl))
  refine wp_region_held_drew (S := (fun V => RowAt V w.heap.size s.cells 26 ∧ RowAt V (w.heap.size + 1) zeroU.cells 26 ∧ Below w.heap.size w V)) (by kernel_rfl) ?_ (fun hHeld => ?_)
  · exact ⟨hr.dr, hq.dr, hb.drew⟩
  generalize World.drew _ = V at hHeld ⊢
  clear hr hq hb
  refine wpAnyH_take (i := 0) (oi := ?oi91) (v := .pointer (some ⟨w.heap.size, 38, none⟩)) ?hi91 (by kernel_rfl) (by kernel_rfl) (by kernel_rfl) ?hQ91 ?hy91 (by assumption) ?rest91
  case hi91 => (simp only [List.getElem?_toArray, List.getElem?_cons_zero]; rfl)
  case hQ91 => exact fun _ _ _ h => h
  case hy91 => exact Or.inl ⟨by rfl, by (intro w hSw; (try dsimp only at hSw); go_simp )⟩
  simp only [Act.put, List.setIfInBounds_toArray, List.set_cons_zero, List.set_cons_succ]
  refine wpAnyH_take (i := 1) (oi := ?oi92) (v := .int .u8 (s.dl : Nat)) ?hi92 (by kernel_rfl) (by kernel_rfl) (by kernel_rfl) ?hQ92 ?hy92 (by assumption) ?rest92
  case hi92 => (simp only [List.getElem?_toArray, List.getElem?_cons_zero, List.getElem?_cons_succ]; rfl)
  case hQ92 => exact fun _ _ _ h => h
  case hy92 => exact y_dl w.heap.size s _ (fun V hV => hV.1) rfl
  simp only [Act.put, List.setIfInBounds_toArray, List.set_cons_zero, List.set_cons_succ]
  refine wpAnyH_take (i := 2) (oi := ?oi93) (v := .pointer (some ⟨w.heap.size, 34, none⟩)) ?hi93 (by kernel_rfl) (by kernel_rfl) (by kernel_rfl) ?hQ93 ?hy93 (by assumption) ?rest93
  case hi93 => (simp only [List.getElem?_toArray, List.getElem?_cons_zero, List.getElem?_cons_succ]; rfl)
  case hQ93 => exact fun _ _ _ h => h
  case hy93 => exact Or.inl ⟨by rfl, by (intro w hSw; (try dsimp only at hSw); go_simp )⟩
  simp only [Act.put, List.setIfInBounds_toArray, List.set_cons_zero, List.set_cons_succ]
  refine wpAnyH_take (i := 3) (oi := ?oi94) (v := .int .u8 (s.ie : Nat)) ?hi94 (by kernel_rfl) (by kernel_rfl) (by kernel_rfl) ?hQ94 ?hy94 (by assumption) ?rest94
  case hi94 => (simp only [List.getElem?_toArray, List.getElem?_cons_zero, List.getElem?_cons_succ]; rfl)
  case hQ94 => exact fun _ _ _ h => h
  case hy94 => exact y_ie w.heap.size s _ (fun V hV => hV.1) rfl
  simp only [Act.put, List.setIfInBounds_toArray, List.set_cons_zero, List.set_cons_succ]
  refine wpAnyH_take (i := 4) (oi := ?oi95) (v := .agg s.cells) ?hi95 (by kernel_rfl) (by kernel_rfl) (by kernel_rfl) ?hQ95 ?hy95 (by assumption) ?rest95
  case hi95 => (simp only [List.getElem?_toArray, List.getElem?_cons_zero, List.getElem?_cons_succ]; rfl)
  case hQ95 => exact fun _ _ _ h => h
  case hy95 => exact y_ur w.heap.size s (fun V hV => hV.1) rfl rfl
  simp only [Act.put, List.setIfInBounds_toArray, List.set_cons_zero, List.set_cons_succ]
  refine wpAnyH_take (i := 7) (oi := ?oi96) (v := .pointer (some ⟨w.heap.size, 35, none⟩)) ?hi96 (by kernel_rfl) (by kernel_rfl) (by kernel_rfl) ?hQ96 ?hy96 (by assumption) ?rest96
  case hi96 => (simp only [List.getElem?_toArray, List.getElem?_cons_zero, List.getElem?_cons_succ]; rfl)
  case hQ96 => exact fun _ _ _ h => h
  case hy96 => exact Or.inl ⟨by rfl, by (intro w hSw; (try dsimp only at hSw); go_simp )⟩
  simp only [Act.put, List.setIfInBounds_toArray, List.set_cons_zero, List.set_cons_succ]
  refine wpAnyH_take (i := 8) (oi := ?oi97) (v := .int .u8 (s.lc : Nat)) ?hi97 (by kernel_rfl) (by kernel_rfl) (by kernel_rfl) ?hQ97 ?hy97 (by assumption) ?rest97
  case hi97 => (simp only [List.getElem?_toArray, List.getElem?_cons_zero, List.getElem?_cons_succ]; rfl)
  case hQ97 => exact fun _ _ _ h => h
  case hy97 => exact y_lc w.heap.size s _ (fun V hV => hV.1) rfl
  simp only [Act.put, List.setIfInBounds_toArray, List.set_cons_zero, List.set_cons_succ]
  refine wpAnyH_take (i := 9) (oi := ?oi98) (v := .pointer (some ⟨w.heap.size, 36, none⟩)) ?hi98 (by kernel_rfl) (by kernel_rfl) (by kernel_rfl) ?hQ98 ?hy98 (by assumption) ?rest98
  case hi98 => (simp only [List.getElem?_toArray, List.getElem?_cons_zero, List.getElem?_cons_succ]; rfl)
  case hQ98 => exact fun _ _ _ h => h
  case hy98 => exact Or.inl ⟨by rfl, by (intro w hSw; (try dsimp only at hSw); go_simp )⟩
  simp only [Act.put, List.setIfInBounds_toArray, List.set_cons_zero, List.set_cons_succ]
  refine wpAnyH_take (i := 10) (oi := ?oi99) (v := .int .u8 (s.mc : Nat)) ?hi99 (by kernel_rfl) (by kernel_rfl) (by kernel_rfl) ?hQ99 ?hy99 (by assumption) ?rest99
  case hi99 => (simp only [List.getElem?_toArray, List.getElem?_cons_zero, List.getElem?_cons_succ]; rfl)
  case hQ99 => exact fun _ _ _ h => h
  case hy99 => exact y_mc w.heap.size s _ (fun V hV => hV.1) rfl
  simp only [Act.put, List.setIfInBounds_toArray, List.set_cons_zero, List.set_cons_succ]
  refine wpAnyH_take (i := 11) (oi := ?oi100) (v := .pointer (some ⟨w.heap.size, 37, none⟩)) ?hi100 (by kernel_rfl) (by kernel_rfl) (by kernel_rfl) ?hQ100 ?hy100 (by assumption) ?rest100
  case hi100 => (simp only [List.getElem?_toArray, List.getElem?_cons_zero, List.getElem?_cons_succ]; rfl)
  case hQ100 => exact fun _ _ _ h => h
  case hy100 => exact Or.inl ⟨by rfl, by (intro w hSw; (try dsimp only at hSw); go_simp )⟩
  simp only [Act.put, List.setIfInBounds_toArray, List.set_cons_zero, List.set_cons_succ]
  refine wpAnyH_take (i := 12) (oi := ?oi101) (v := .int .u8 (s.sc : Nat)) ?hi101 (by kernel_rfl) (by kernel_rfl) (by kernel_rfl) ?hQ101 ?hy101 (by assumption) ?rest101
  case hi101 => (simp only [List.getElem?_toArray, List.getElem?_cons_zero, List.getElem?_cons_succ]; rfl)
  case hQ101 => exact fun _ _ _ h => h
  case hy101 => exact y_sc w.heap.size s _ (fun V hV => hV.1) rfl
  simp only [Act.put, List.setIfInBounds_toArray, List.set_cons_zero, List.set_cons_succ]
  refine wpAnyH_ready (rs := [5]) (by kernel_rfl) (by simp) ?_
  refine AllReadyH.cons (o := ?oi102) ?hi102 (fun K hK => ?_) AllReadyH.nil
  case hi102 => (simp only [List.getElem?_toArray, List.getElem?_cons_zero, List.getElem?_cons_succ]; rfl)
  go_simp
  (with_reducible refine (HA.out _).mono ?_)
  rintro e V ⟨rfl, hbc⟩
  have hH2 := hide (And.intro (hHeld.1.bl hbc) (And.intro (hHeld.2.1.bl hbc) (below_bl rfl hHeld.2.2 hbc)))
  clear hHeld hbc
  go_simp
  refine hK.out _ _ ?_ (fun hHeld => ?_)
  · exact hH2.out
  clear hK K
  clear hH2
  refine wpAnyH_take (i := 6) (oi := ?oi103) (v := .int .u8 (192 + (v : Nat))) ?hi103 (by kernel_rfl) (by kernel_rfl) (by kernel_rfl) ?hQ103 ?hy103 (by assumption) ?rest103
  case hi103 => (simp only [List.getElem?_toArray, List.getElem?_cons_zero, List.getElem?_cons_succ]; rfl)
  case hQ103 => exact fun _ _ _ h => h
  case hy103 => exact Or.inl ⟨by rfl, by (intro w hSw; (try dsimp only at hSw); go_simp ; exact w192 v hv8)⟩
  simp only [Act.put, List.setIfInBounds_toArray, List.set_cons_zero, List.set_cons_succ]
  refine wpAnyH_ready (rs := [13]) (by kernel_rfl) (by simp) ?_
  refine AllReadyH.cons (o := ?oi104) ?hi104 (fun K hK => ?_) AllReadyH.nil
  case hi104 => (simp only [List.getElem?_toArray, List.getElem?_cons_zero, List.getElem?_cons_succ]; rfl)
  obtain ⟨NL, hNL⟩ : ∃ n, V.heap.size = n := ⟨_, rfl⟩
  have lNL : w.heap.size + 2 ≤ NL := by have := hHeld.2.1.lt; omega
  replace hNL := hide hNL
  rw [if_pos (by rfl)]
  (with_reducible refine s_bsn 56 5 8 Tryd.underlying56 (c8 (lstG s v)) NL ?_ _ ?_ ⟨built_8 s v⟩ ?_)
  · exact hNL.out
  · kernel_rfl
  intro V hl hb' hzY
  have hH2 := hide (And.intro (hHeld.1.bl (hNL.out ▸ hb')) (And.intro (hHeld.2.1.bl (hNL.out ▸ hb')) (hHeld.2.2.trans (hb'.mono (by omega)))))
  simp only [Act.put, List.setIfInBounds_toArray, List.set_cons_zero, List.set_cons_succ]
  clear hHeld
  refine hK.out _ _ ?_ (fun hHeld => ?_)
  · exact hH2.out
  clear hK K
  clear hH2
  refine wpAnyH_take (i := 14) (oi := ?oi105) (v := .slice (some ⟨NL, 0, none⟩) 8 8) ?hi105 (by kernel_rfl) (by kernel_rfl) (by kernel_rfl) ?hQ105 ?hy105 (by assumption) ?rest105
  case hi105 => (simp only [List.getElem?_toArray, List.getElem?_cons_zero, List.getElem?_cons_succ]; rfl)
  case hQ105 => exact fun _ _ _ h => h
  case hy105 => exact Or.inl ⟨by rfl, by (intro w hSw; (try dsimp only at hSw); go_simp )⟩
  simp only [Act.put, List.setIfInBounds_toArray, List.set_cons_zero, List.set_cons_succ]
  refine wpAnyH_done (by kernel_rfl) ?_ _
  have hr := hHeld.1
  have hq := hHeld.2.1
  have hb := hHeld.2.2
  clear hHeld
  go_wp2_with (first | ((with_reducible refine ld_dm w.heap.size _ _ hr ?_ ?_); exact rfl) | ((with_reducible refine st_ur (w.heap.size + 1) _ zeroU hq ?_ ?_ ?_); exact rfl; exact rfl; intro W hnew ho; replace hr := hr.only ho (by omega); replace hq := hnew; replace hb := ho.bel _ _ (by omega) hb))
  refine bodyPost_ret (results_cell_two Tryd.results7 _ _ (w.heap.size + 1) _ _ _ rfl hq Tryd.underlying26 rfl size_ur) rfl ?_
  exact ⟨rfl, hb⟩

theorem rread_any (s : U) (ok : s.Ok) (a : Nat) (w : World) :
    Calls Tryd.prog 7 #[.agg s.cells, .int .u32 (a : Nat)] w fun e w' => e = .returned (.tuple #[.agg (readV s a).1.cells, .int .u8 ((readV s a).2.1 : Nat), .int .i64 ((readV s a).2.2 : Nat)]) ∧ Below w.heap.size w w' := by
  cases hm : mayU s with
  | false => exact rread_no s ok a hm w
  | true =>
    have g0 := mayF.n0 ((mayU_iff s).1 hm).rx
    by_cases h5 : a = 5
    · subst h5
      have ev : statN s = (if decide (0 < s.rx.n) = true then 1 else 0) + (if s.ov = true then 2 else 0) + (if (s.tx.n == 0) = true then 96 else 0) := by
        unfold statN
        have : (s.rx.n ≠ 0) = (decide (0 < s.rx.n) = true) := by simp; omega
        have e2 : (s.tx.n = 0) = ((s.tx.n == 0) = true) := by simp
        simp only [this, e2]
      cases hd : dlB s
      · cases h0 : decide (0 < s.rx.n) <;> cases h1 : s.ov <;> cases h2 : (s.tx.n == 0) <;> rw [h0, h1, h2] at ev
        · exact rread_5f0 s ok hm ev hd h0 h1 h2 w
        · exact rread_5f1 s ok hm ev hd h0 h1 h2 w
        · exact rread_5f2 s ok hm ev hd h0 h1 h2 w
        · exact rread_5f3 s ok hm ev hd h0 h1 h2 w
        · exact rread_5f4 s ok hm ev hd h0 h1 h2 w
        · exact rread_5f5 s ok hm ev hd h0 h1 h2 w
        · exact rread_5f6 s ok hm ev hd h0 h1 h2 w
        · exact rread_5f7 s ok hm ev hd h0 h1 h2 w
      · cases h0 : decide (0 < s.rx.n) <;> cases h1 : s.ov <;> cases h2 : (s.tx.n == 0) <;> rw [h0, h1, h2] at ev
        · exact rread_5t0 s ok hm ev hd h0 h1 h2 w
        · exact rread_5t1 s ok hm ev hd h0 h1 h2 w
        · exact rread_5t2 s ok hm ev hd h0 h1 h2 w
        · exact rread_5t3 s ok hm ev hd h0 h1 h2 w
        · exact rread_5t4 s ok hm ev hd h0 h1 h2 w
        · exact rread_5t5 s ok hm ev hd h0 h1 h2 w
        · exact rread_5t6 s ok hm ev hd h0 h1 h2 w
        · exact rread_5t7 s ok hm ev hd h0 h1 h2 w
    by_cases h7 : 7 < a
    · cases hd : dlB s with
      | true => exact rread_nt s ok a h7 hm hd w
      | false => exact rread_nf s ok a h7 hm hd w
    cases hd : dlB s with
    | true => exact rread_lt s ok a (by omega) h5 hm hd w
    | false =>
      by_cases h0 : a = 0
      · subst h0
        by_cases hn : s.rx.n = 0
        · exact rread_0n s ok hm hd hn w
        · exact rread_0y s ok hm hd (by omega) w
      · exact rread_lf s ok a (by omega) h5 h0 hm hd w
end Go.Proofs.YthopfecjnbfnmaaDoor
