/-
  ClintLines, walked.
-/
import Derived.Test.YtjibjginafjpcaaClRef
import Derived.Test.YtjibjginafjpcaaClNext
import Derived.Test.YtjibjginafjpcaaClSure
namespace Go.Proofs.Ytjibjginafjpcaa
open Go.RowKit
set_option linter.unusedVariables false

set_option maxRecDepth 20000 in
set_option maxHeartbeats 2000000 in
theorem lines_top (s : S3) (hs : s.Ok) (h0 : s.ti = 18446744073709551615) (w : World) :
    Calls Try.prog 5 #[.agg s.cells] w fun e w' => e = .returned (.bool true) ∧ Below w.heap.size w w' := by
  have h1 := hs.ti
  have HT0 : Hid (Value.int .u64 ((((s.ti : Nat) : Int) + 1) % 18446744073709551616) = .int .u64 ((plus1 s.ti : Nat) : Int)) := hide (by rw [h0]; rfl)
  clear h0 h1
  have HL := hide (fun w => lines_any s hs w)
  have HRL := hide (fun w => rlines_any s hs w)
  have HX := hide (fun w => next_any s hs w)
  have HRX := hide (fun w => rnext_any s hs w)
  have HT := hide (fun w => tick_any s hs w)
  have HL' := hide (fun w => lines_any (tickV s) (tickV_ok hs) w)
  have HRL' := hide (fun w => rlines_any (tickV s) (tickV_ok hs) w)
  have HS := hide (fun w => sure_any w)
  go_enter Try.func5, Try.ntmps5
  go_wp2_with (first | ((with_reducible refine bx_r w.heap.size s ?_ ?_ ?_); exact rfl; exact rfl; intro W hg hb hz) | ((with_reducible refine ld_r w.heap.size s hg ?_ ?_); exact rfl) | ((with_reducible refine al_p (w.heap.size + 1) ?_ ?_); exact hz.out; intro W hx hb' hz'; replace hg := hg.bl (hz.out ▸ hb'); replace hb := hb.trans (hb'.mono (by omega)); replace hz := hz') | ((with_reducible refine st_p (w.heap.size + 1) _ s hx ?_ ?_ ?_); exact rfl; exact rfl; intro W hnew ho; replace hg := hg.only ho (by omega); replace hx := hnew; replace hb := ho.bel _ _ (by omega) hb; replace hz := hide (ho.size.trans hz.out)) | ((with_reducible refine al_r (w.heap.size + 2) ?_ ?_); exact hz.out; intro W hy hb' hz'; replace hg := hg.bl (hz.out ▸ hb'); replace hx := hx.bl (hz.out ▸ hb'); replace hb := hb.trans (hb'.mono (by omega)); replace hz := hz') | ((with_reducible refine st_r (w.heap.size + 2) _ s hy ?_ ?_ ?_); exact rfl; exact rfl; intro W hnew ho; replace hg := hg.only ho (by omega); replace hx := hx.only ho (by omega); replace hy := hnew; replace hb := ho.bel _ _ (by omega) hb) | ((with_reducible refine ld_ti (w.heap.size + 2) _ _ hy ?_ ?_); exact rfl) | ((with_reducible refine st_ti (w.heap.size + 2) _ (plus1 s.ti) _ hy ?_ ?_ ?_); exact rfl; exact HT0.out; intro W hnew ho; replace hg := hg.only ho (by omega); replace hx := hx.only ho (by omega); replace hy := hnew; replace hb := ho.bel _ _ (by omega) hb))
  rw [show (⟨s.so, plus1 s.ti, s.cm⟩ : S3) = tickV s from rfl] at hy
  obtain ⟨s', hs'⟩ : ∃ x, tickV s = x := ⟨_, rfl⟩
  rw [hs'] at HT HL' HRL' hy
  clear hs' HT0
  generalize linesV s = b at *
  generalize nextV s = x at *
  generalize linesV s' = b' at *
  refine wp_region_held_drew (S := (fun V => RowAt V (w.heap.size + 1) s.cells 26 ∧ RowAt V w.heap.size s.cells 25 ∧ RowAt V (w.heap.size + 2) s'.cells 25 ∧ Below w.heap.size w V)) (by kernel_rfl) ?_ (fun hHeld => ?_)
  · exact ⟨hx.dr, hg.dr, hy.dr, hb.drew⟩
  generalize W.drew = V at hHeld ⊢
  clear hx hg hy hb hz
  refine wpAnyH_take (i := 0) (oi := ?oi36) (v := .agg s.cells) ?hi36 (by kernel_rfl) (by kernel_rfl) (by kernel_rfl) ?hQ36 ?hy36 (by assumption) ?rest36
  case hi36 => (simp only [List.getElem?_toArray, List.getElem?_cons_zero]; rfl)
  case hQ36 => exact fun _ _ _ h => h
  case hy36 => exact y_gp (w.heap.size + 1) s (fun V hV => hV.1) rfl rfl
  simp only [Act.put, List.setIfInBounds_toArray, List.set_cons_zero, List.set_cons_succ]
  refine wpAnyH_take (i := 2) (oi := ?oi37) (v := .agg s.cells) ?hi37 (by kernel_rfl) (by kernel_rfl) (by kernel_rfl) ?hQ37 ?hy37 (by assumption) ?rest37
  case hi37 => (simp only [List.getElem?_toArray, List.getElem?_cons_zero, List.getElem?_cons_succ]; rfl)
  case hQ37 => exact fun _ _ _ h => h
  case hy37 => exact y_gr w.heap.size s (fun V hV => hV.2.1) rfl rfl
  simp only [Act.put, List.setIfInBounds_toArray, List.set_cons_zero, List.set_cons_succ]
  refine wpAnyH_ready (rs := [1]) (by kernel_rfl) (by simp) ?_
  refine AllReadyH.cons (o := ?oi38) ?hi38 (fun K hK => ?_) AllReadyH.nil
  case hi38 => (simp only [List.getElem?_toArray, List.getElem?_cons_zero, List.getElem?_cons_succ]; rfl)
  go_simp
  (with_reducible refine (HL.out _).mono ?_)
  rintro e V ⟨rfl, hbc⟩
  have hH2 := hide (And.intro (hHeld.1.bl hbc) (And.intro (hHeld.2.1.bl hbc) (And.intro (hHeld.2.2.1.bl hbc) (below_bl rfl hHeld.2.2.2 hbc))))
  clear hHeld hbc
  go_simp
  refine hK.out _ _ ?_ (fun hHeld => ?_)
  · exact hH2.out
  clear hK K
  clear hH2
  refine wpAnyH_ready (rs := [3]) (by kernel_rfl) (by simp) ?_
  refine AllReadyH.cons (o := ?oi39) ?hi39 (fun K hK => ?_) AllReadyH.nil
  case hi39 => (simp only [List.getElem?_toArray, List.getElem?_cons_zero, List.getElem?_cons_succ]; rfl)
  go_simp
  (with_reducible refine (HRL.out _).mono ?_)
  rintro e V ⟨rfl, hbc⟩
  have hH2 := hide (And.intro (hHeld.1.bl hbc) (And.intro (hHeld.2.1.bl hbc) (And.intro (hHeld.2.2.1.bl hbc) (below_bl rfl hHeld.2.2.2 hbc))))
  clear hHeld hbc
  go_simp
  refine hK.out _ _ ?_ (fun hHeld => ?_)
  · exact hH2.out
  clear hK K
  clear hH2
  refine wpAnyH_take (i := 4) (oi := ?oi40) (v := .bool true) ?hi40 (by kernel_rfl) (by kernel_rfl) (by kernel_rfl) ?hQ40 ?hy40 (by assumption) ?rest40
  case hi40 => (simp only [List.getElem?_toArray, List.getElem?_cons_zero, List.getElem?_cons_succ]; rfl)
  case hQ40 => exact fun _ _ _ h => h
  case hy40 => exact Or.inl ⟨by rfl, by (intro w hSw; (try dsimp only at hSw); go_simp )⟩
  simp only [Act.put, List.setIfInBounds_toArray, List.set_cons_zero, List.set_cons_succ]
  refine wpAnyH_take (i := 5) (oi := ?oi41) (v := .bool true) ?hi41 (by kernel_rfl) (by kernel_rfl) (by kernel_rfl) ?hQ41 ?hy41 (by assumption) ?rest41
  case hi41 => (simp only [List.getElem?_toArray, List.getElem?_cons_zero, List.getElem?_cons_succ]; rfl)
  case hQ41 => exact fun _ _ _ h => h
  case hy41 => exact Or.inl ⟨by rfl, by (intro w hSw; (try dsimp only at hSw); go_simp )⟩
  simp only [Act.put, List.setIfInBounds_toArray, List.set_cons_zero, List.set_cons_succ]
  refine wpAnyH_take (i := 6) (oi := ?oi42) (v := .agg s.cells) ?hi42 (by kernel_rfl) (by kernel_rfl) (by kernel_rfl) ?hQ42 ?hy42 (by assumption) ?rest42
  case hi42 => (simp only [List.getElem?_toArray, List.getElem?_cons_zero, List.getElem?_cons_succ]; rfl)
  case hQ42 => exact fun _ _ _ h => h
  case hy42 => exact y_gp (w.heap.size + 1) s (fun V hV => hV.1) rfl rfl
  simp only [Act.put, List.setIfInBounds_toArray, List.set_cons_zero, List.set_cons_succ]
  refine wpAnyH_take (i := 8) (oi := ?oi43) (v := .agg s.cells) ?hi43 (by kernel_rfl) (by kernel_rfl) (by kernel_rfl) ?hQ43 ?hy43 (by assumption) ?rest43
  case hi43 => (simp only [List.getElem?_toArray, List.getElem?_cons_zero, List.getElem?_cons_succ]; rfl)
  case hQ43 => exact fun _ _ _ h => h
  case hy43 => exact y_gr w.heap.size s (fun V hV => hV.2.1) rfl rfl
  simp only [Act.put, List.setIfInBounds_toArray, List.set_cons_zero, List.set_cons_succ]
  refine wpAnyH_ready (rs := [7]) (by kernel_rfl) (by simp) ?_
  refine AllReadyH.cons (o := ?oi44) ?hi44 (fun K hK => ?_) AllReadyH.nil
  case hi44 => (simp only [List.getElem?_toArray, List.getElem?_cons_zero, List.getElem?_cons_succ]; rfl)
  rw [if_pos (by rfl)]
  go_simp
  (with_reducible refine (HX.out _).mono ?_)
  rintro e V ⟨rfl, hbc⟩
  have hH2 := hide (And.intro (hHeld.1.bl hbc) (And.intro (hHeld.2.1.bl hbc) (And.intro (hHeld.2.2.1.bl hbc) (below_bl rfl hHeld.2.2.2 hbc))))
  clear hHeld hbc
  go_simp
  refine hK.out _ _ ?_ (fun hHeld => ?_)
  · exact hH2.out
  clear hK K
  clear hH2
  refine wpAnyH_ready (rs := [9]) (by kernel_rfl) (by simp) ?_
  refine AllReadyH.cons (o := ?oi45) ?hi45 (fun K hK => ?_) AllReadyH.nil
  case hi45 => (simp only [List.getElem?_toArray, List.getElem?_cons_zero, List.getElem?_cons_succ]; rfl)
  rw [if_pos (by rfl)]
  go_simp
  (with_reducible refine (HRX.out _).mono ?_)
  rintro e V ⟨rfl, hbc⟩
  have hH2 := hide (And.intro (hHeld.1.bl hbc) (And.intro (hHeld.2.1.bl hbc) (And.intro (hHeld.2.2.1.bl hbc) (below_bl rfl hHeld.2.2.2 hbc))))
  clear hHeld hbc
  go_simp
  refine hK.out _ _ ?_ (fun hHeld => ?_)
  · exact hH2.out
  clear hK K
  clear hH2
  refine wpAnyH_take (i := 10) (oi := ?oi46) (v := .bool true) ?hi46 (by kernel_rfl) (by kernel_rfl) (by kernel_rfl) ?hQ46 ?hy46 (by assumption) ?rest46
  case hi46 => (simp only [List.getElem?_toArray, List.getElem?_cons_zero, List.getElem?_cons_succ]; rfl)
  case hQ46 => exact fun _ _ _ h => h
  case hy46 => exact Or.inl ⟨by rfl, by (intro w hSw; (try dsimp only at hSw); go_simp )⟩
  simp only [Act.put, List.setIfInBounds_toArray, List.set_cons_zero, List.set_cons_succ]
  refine wpAnyH_take (i := 11) (oi := ?oi47) (v := .bool true) ?hi47 (by kernel_rfl) (by kernel_rfl) (by kernel_rfl) ?hQ47 ?hy47 (by assumption) ?rest47
  case hi47 => (simp only [List.getElem?_toArray, List.getElem?_cons_zero, List.getElem?_cons_succ]; rfl)
  case hQ47 => exact fun _ _ _ h => h
  case hy47 => exact Or.inl ⟨by rfl, by (intro w hSw; (try dsimp only at hSw); go_simp )⟩
  simp only [Act.put, List.setIfInBounds_toArray, List.set_cons_zero, List.set_cons_succ]
  refine wpAnyH_take (i := 12) (oi := ?oi48) (v := .bool true) ?hi48 (by kernel_rfl) (by kernel_rfl) (by kernel_rfl) ?hQ48 ?hy48 (by assumption) ?rest48
  case hi48 => (simp only [List.getElem?_toArray, List.getElem?_cons_zero, List.getElem?_cons_succ]; rfl)
  case hQ48 => exact fun _ _ _ h => h
  case hy48 => exact Or.inl ⟨by rfl, by (intro w hSw; (try dsimp only at hSw); go_simp )⟩
  simp only [Act.put, List.setIfInBounds_toArray, List.set_cons_zero, List.set_cons_succ]
  refine wpAnyH_take (i := 13) (oi := ?oi49) (v := .agg s.cells) ?hi49 (by kernel_rfl) (by kernel_rfl) (by kernel_rfl) ?hQ49 ?hy49 (by assumption) ?rest49
  case hi49 => (simp only [List.getElem?_toArray, List.getElem?_cons_zero, List.getElem?_cons_succ]; rfl)
  case hQ49 => exact fun _ _ _ h => h
  case hy49 => exact y_gp (w.heap.size + 1) s (fun V hV => hV.1) rfl rfl
  simp only [Act.put, List.setIfInBounds_toArray, List.set_cons_zero, List.set_cons_succ]
  refine wpAnyH_take (i := 15) (oi := ?oi50) (v := (.agg s'.cells)) ?hi50 (by kernel_rfl) (by kernel_rfl) (by kernel_rfl) ?hQ50 ?hy50 (by assumption) ?rest50
  case hi50 => (simp only [List.getElem?_toArray, List.getElem?_cons_zero, List.getElem?_cons_succ]; rfl)
  case hQ50 => exact fun _ _ _ h => h
  case hy50 => exact y_gr (w.heap.size + 2) s' (fun V hV => hV.2.2.1) rfl rfl
  simp only [Act.put, List.setIfInBounds_toArray, List.set_cons_zero, List.set_cons_succ]
  refine wpAnyH_ready (rs := [14]) (by kernel_rfl) (by simp) ?_
  refine AllReadyH.cons (o := ?oi51) ?hi51 (fun K hK => ?_) AllReadyH.nil
  case hi51 => (simp only [List.getElem?_toArray, List.getElem?_cons_zero, List.getElem?_cons_succ]; rfl)
  rw [if_pos (by rfl)]
  go_simp
  (with_reducible refine (HT.out _).mono ?_)
  rintro e V ⟨rfl, hbc⟩
  have hH2 := hide (And.intro (hHeld.1.bl hbc) (And.intro (hHeld.2.1.bl hbc) (And.intro (hHeld.2.2.1.bl hbc) (below_bl rfl hHeld.2.2.2 hbc))))
  clear hHeld hbc
  go_simp
  refine hK.out _ _ ?_ (fun hHeld => ?_)
  · exact hH2.out
  clear hK K
  clear hH2
  refine wpAnyH_take (i := 16) (oi := ?oi52) (v := .bool true) ?hi52 (by kernel_rfl) (by kernel_rfl) (by kernel_rfl) ?hQ52 ?hy52 (by assumption) ?rest52
  case hi52 => (simp only [List.getElem?_toArray, List.getElem?_cons_zero, List.getElem?_cons_succ]; rfl)
  case hQ52 => exact fun _ _ _ h => h
  case hy52 => exact y_eqp s' rfl rfl rfl
  simp only [Act.put, List.setIfInBounds_toArray, List.set_cons_zero, List.set_cons_succ]
  refine wpAnyH_take (i := 17) (oi := ?oi53) (v := .bool true) ?hi53 (by kernel_rfl) (by kernel_rfl) (by kernel_rfl) ?hQ53 ?hy53 (by assumption) ?rest53
  case hi53 => (simp only [List.getElem?_toArray, List.getElem?_cons_zero, List.getElem?_cons_succ]; rfl)
  case hQ53 => exact fun _ _ _ h => h
  case hy53 => exact Or.inl ⟨by rfl, by (intro w hSw; (try dsimp only at hSw); go_simp )⟩
  simp only [Act.put, List.setIfInBounds_toArray, List.set_cons_zero, List.set_cons_succ]
  refine wpAnyH_take (i := 18) (oi := ?oi54) (v := .bool true) ?hi54 (by kernel_rfl) (by kernel_rfl) (by kernel_rfl) ?hQ54 ?hy54 (by assumption) ?rest54
  case hi54 => (simp only [List.getElem?_toArray, List.getElem?_cons_zero, List.getElem?_cons_succ]; rfl)
  case hQ54 => exact fun _ _ _ h => h
  case hy54 => exact Or.inl ⟨by rfl, by (intro w hSw; (try dsimp only at hSw); go_simp )⟩
  simp only [Act.put, List.setIfInBounds_toArray, List.set_cons_zero, List.set_cons_succ]
  refine wpAnyH_take (i := 19) (oi := ?oi55) (v := .agg s.cells) ?hi55 (by kernel_rfl) (by kernel_rfl) (by kernel_rfl) ?hQ55 ?hy55 (by assumption) ?rest55
  case hi55 => (simp only [List.getElem?_toArray, List.getElem?_cons_zero, List.getElem?_cons_succ]; rfl)
  case hQ55 => exact fun _ _ _ h => h
  case hy55 => exact y_gp (w.heap.size + 1) s (fun V hV => hV.1) rfl rfl
  simp only [Act.put, List.setIfInBounds_toArray, List.set_cons_zero, List.set_cons_succ]
  refine wpAnyH_take (i := 22) (oi := ?oi56) (v := (.agg s'.cells)) ?hi56 (by kernel_rfl) (by kernel_rfl) (by kernel_rfl) ?hQ56 ?hy56 (by assumption) ?rest56
  case hi56 => (simp only [List.getElem?_toArray, List.getElem?_cons_zero, List.getElem?_cons_succ]; rfl)
  case hQ56 => exact fun _ _ _ h => h
  case hy56 => exact y_gr (w.heap.size + 2) s' (fun V hV => hV.2.2.1) rfl rfl
  simp only [Act.put, List.setIfInBounds_toArray, List.set_cons_zero, List.set_cons_succ]
  refine wpAnyH_ready (rs := [20]) (by kernel_rfl) (by simp) ?_
  refine AllReadyH.cons (o := ?oi57) ?hi57 (fun K hK => ?_) AllReadyH.nil
  case hi57 => (simp only [List.getElem?_toArray, List.getElem?_cons_zero, List.getElem?_cons_succ]; rfl)
  rw [if_pos (by rfl)]
  go_simp
  (with_reducible refine (HT.out _).mono ?_)
  rintro e V ⟨rfl, hbc⟩
  have hH2 := hide (And.intro (hHeld.1.bl hbc) (And.intro (hHeld.2.1.bl hbc) (And.intro (hHeld.2.2.1.bl hbc) (below_bl rfl hHeld.2.2.2 hbc))))
  clear hHeld hbc
  go_simp
  refine hK.out _ _ ?_ (fun hHeld => ?_)
  · exact hH2.out
  clear hK K
  clear hH2
  refine wpAnyH_ready (rs := [21]) (by kernel_rfl) (by simp) ?_
  refine AllReadyH.cons (o := ?oi58) ?hi58 (fun K hK => ?_) AllReadyH.nil
  case hi58 => (simp only [List.getElem?_toArray, List.getElem?_cons_zero, List.getElem?_cons_succ]; rfl)
  rw [if_pos (by rfl)]
  go_simp
  (with_reducible refine (HL'.out _).mono ?_)
  rintro e V ⟨rfl, hbc⟩
  have hH2 := hide (And.intro (hHeld.1.bl hbc) (And.intro (hHeld.2.1.bl hbc) (And.intro (hHeld.2.2.1.bl hbc) (below_bl rfl hHeld.2.2.2 hbc))))
  clear hHeld hbc
  go_simp
  refine hK.out _ _ ?_ (fun hHeld => ?_)
  · exact hH2.out
  clear hK K
  clear hH2
  refine wpAnyH_ready (rs := [23]) (by kernel_rfl) (by simp) ?_
  refine AllReadyH.cons (o := ?oi59) ?hi59 (fun K hK => ?_) AllReadyH.nil
  case hi59 => (simp only [List.getElem?_toArray, List.getElem?_cons_zero, List.getElem?_cons_succ]; rfl)
  rw [if_pos (by rfl)]
  go_simp
  (with_reducible refine (HRL'.out _).mono ?_)
  rintro e V ⟨rfl, hbc⟩
  have hH2 := hide (And.intro (hHeld.1.bl hbc) (And.intro (hHeld.2.1.bl hbc) (And.intro (hHeld.2.2.1.bl hbc) (below_bl rfl hHeld.2.2.2 hbc))))
  clear hHeld hbc
  go_simp
  refine hK.out _ _ ?_ (fun hHeld => ?_)
  · exact hH2.out
  clear hK K
  clear hH2
  refine wpAnyH_take (i := 24) (oi := ?oi60) (v := .bool true) ?hi60 (by kernel_rfl) (by kernel_rfl) (by kernel_rfl) ?hQ60 ?hy60 (by assumption) ?rest60
  case hi60 => (simp only [List.getElem?_toArray, List.getElem?_cons_zero, List.getElem?_cons_succ]; rfl)
  case hQ60 => exact fun _ _ _ h => h
  case hy60 => exact Or.inl ⟨by rfl, by (intro w hSw; (try dsimp only at hSw); go_simp )⟩
  simp only [Act.put, List.setIfInBounds_toArray, List.set_cons_zero, List.set_cons_succ]
  refine wpAnyH_take (i := 25) (oi := ?oi61) (v := .bool true) ?hi61 (by kernel_rfl) (by kernel_rfl) (by kernel_rfl) ?hQ61 ?hy61 (by assumption) ?rest61
  case hi61 => (simp only [List.getElem?_toArray, List.getElem?_cons_zero, List.getElem?_cons_succ]; rfl)
  case hQ61 => exact fun _ _ _ h => h
  case hy61 => exact Or.inl ⟨by rfl, by (intro w hSw; (try dsimp only at hSw); go_simp )⟩
  simp only [Act.put, List.setIfInBounds_toArray, List.set_cons_zero, List.set_cons_succ]
  refine wpAnyH_take (i := 26) (oi := ?oi62) (v := .bool true) ?hi62 (by kernel_rfl) (by kernel_rfl) (by kernel_rfl) ?hQ62 ?hy62 (by assumption) ?rest62
  case hi62 => (simp only [List.getElem?_toArray, List.getElem?_cons_zero, List.getElem?_cons_succ]; rfl)
  case hQ62 => exact fun _ _ _ h => h
  case hy62 => exact Or.inl ⟨by rfl, by (intro w hSw; (try dsimp only at hSw); go_simp )⟩
  simp only [Act.put, List.setIfInBounds_toArray, List.set_cons_zero, List.set_cons_succ]
  refine wpAnyH_ready (rs := [27]) (by kernel_rfl) (by simp) ?_
  refine AllReadyH.cons (o := ?oi63) ?hi63 (fun K hK => ?_) AllReadyH.nil
  case hi63 => (simp only [List.getElem?_toArray, List.getElem?_cons_zero, List.getElem?_cons_succ]; rfl)
  rw [if_pos (by rfl)]
  go_simp
  (with_reducible refine (HS.out _).mono ?_)
  rintro e V ⟨rfl, hbc⟩
  have hH2 := hide (And.intro (hHeld.1.bl hbc) (And.intro (hHeld.2.1.bl hbc) (And.intro (hHeld.2.2.1.bl hbc) (below_bl rfl hHeld.2.2.2 hbc))))
  clear hHeld hbc
  go_simp
  refine hK.out _ _ ?_ (fun hHeld => ?_)
  · exact hH2.out
  clear hK K
  clear hH2
  refine wpAnyH_take (i := 28) (oi := ?oi64) (v := .bool true) ?hi64 (by kernel_rfl) (by kernel_rfl) (by kernel_rfl) ?hQ64 ?hy64 (by assumption) ?rest64
  case hi64 => (simp only [List.getElem?_toArray, List.getElem?_cons_zero, List.getElem?_cons_succ]; rfl)
  case hQ64 => exact fun _ _ _ h => h
  case hy64 => exact Or.inl ⟨by rfl, by (intro w hSw; (try dsimp only at hSw); go_simp )⟩
  simp only [Act.put, List.setIfInBounds_toArray, List.set_cons_zero, List.set_cons_succ]
  refine wpAnyH_take (i := 29) (oi := ?oi65) (v := .bool true) ?hi65 (by kernel_rfl) (by kernel_rfl) (by kernel_rfl) ?hQ65 ?hy65 (by assumption) ?rest65
  case hi65 => (simp only [List.getElem?_toArray, List.getElem?_cons_zero, List.getElem?_cons_succ]; rfl)
  case hQ65 => exact fun _ _ _ h => h
  case hy65 => exact Or.inl ⟨by rfl, by (intro w hSw; (try dsimp only at hSw); go_simp )⟩
  simp only [Act.put, List.setIfInBounds_toArray, List.set_cons_zero, List.set_cons_succ]
  refine wpAnyH_done (by kernel_rfl) ?_ _
  have hb := hHeld.2.2.2
  clear hHeld
  go_wp2
  go_ret
  exact ⟨rfl, hb⟩

set_option maxRecDepth 20000 in
set_option maxHeartbeats 2000000 in
theorem lines_one (s : S3) (hs : s.Ok) (h0 : s.ti < 18446744073709551615) (w : World) :
    Calls Try.prog 5 #[.agg s.cells] w fun e w' => e = .returned (.bool true) ∧ Below w.heap.size w w' := by
  have h1 := hs.ti
  have HT0 : Hid (Value.int .u64 (((s.ti : Nat) : Int) + 1) = .int .u64 ((plus1 s.ti : Nat) : Int)) := hide (by unfold plus1; rw [if_neg (by omega)]; rfl)
  have HL := hide (fun w => lines_any s hs w)
  have HRL := hide (fun w => rlines_any s hs w)
  have HX := hide (fun w => next_any s hs w)
  have HRX := hide (fun w => rnext_any s hs w)
  have HT := hide (fun w => tick_any s hs w)
  have HL' := hide (fun w => lines_any (tickV s) (tickV_ok hs) w)
  have HRL' := hide (fun w => rlines_any (tickV s) (tickV_ok hs) w)
  have HS := hide (fun w => sure_any w)
  go_enter Try.func5, Try.ntmps5
  go_wp2_with (first | ((with_reducible refine bx_r w.heap.size s ?_ ?_ ?_); exact rfl; exact rfl; intro W hg hb hz) | ((with_reducible refine ld_r w.heap.size s hg ?_ ?_); exact rfl) | ((with_reducible refine al_p (w.heap.size + 1) ?_ ?_); exact hz.out; intro W hx hb' hz'; replace hg := hg.bl (hz.out ▸ hb'); replace hb := hb.trans (hb'.mono (by omega)); replace hz := hz') | ((with_reducible refine st_p (w.heap.size + 1) _ s hx ?_ ?_ ?_); exact rfl; exact rfl; intro W hnew ho; replace hg := hg.only ho (by omega); replace hx := hnew; replace hb := ho.bel _ _ (by omega) hb; replace hz := hide (ho.size.trans hz.out)) | ((with_reducible refine al_r (w.heap.size + 2) ?_ ?_); exact hz.out; intro W hy hb' hz'; replace hg := hg.bl (hz.out ▸ hb'); replace hx := hx.bl (hz.out ▸ hb'); replace hb := hb.trans (hb'.mono (by omega)); replace hz := hz') | ((with_reducible refine st_r (w.heap.size + 2) _ s hy ?_ ?_ ?_); exact rfl; exact rfl; intro W hnew ho; replace hg := hg.only ho (by omega); replace hx := hx.only ho (by omega); replace hy := hnew; replace hb := ho.bel _ _ (by omega) hb) | ((with_reducible refine ld_ti (w.heap.size + 2) _ _ hy ?_ ?_); exact rfl) | ((with_reducible refine st_ti (w.heap.size + 2) _ (plus1 s.ti) _ hy ?_ ?_ ?_); exact rfl; exact HT0.out; intro W hnew ho; replace hg := hg.only ho (by omega); replace hx := hx.only ho (by omega); replace hy := hnew; replace hb := ho.bel _ _ (by omega) hb))
  rw [show (⟨s.so, plus1 s.ti, s.cm⟩ : S3) = tickV s from rfl] at hy
  obtain ⟨s', hs'⟩ : ∃ x, tickV s = x := ⟨_, rfl⟩
  rw [hs'] at HT HL' HRL' hy
  clear hs' HT0
  generalize linesV s = b at *
  generalize nextV s = x at *
  generalize linesV s' = b' at *
  refine wp_region_held_drew (S := (fun V => RowAt V (w.heap.size + 1) s.cells 26 ∧ RowAt V w.heap.size s.cells 25 ∧ RowAt V (w.heap.size + 2) s'.cells 25 ∧ Below w.heap.size w V)) (by kernel_rfl) ?_ (fun hHeld => ?_)
  · exact ⟨hx.dr, hg.dr, hy.dr, hb.drew⟩
  generalize W.drew = V at hHeld ⊢
  clear hx hg hy hb hz
  refine wpAnyH_take (i := 0) (oi := ?oi36) (v := .agg s.cells) ?hi36 (by kernel_rfl) (by kernel_rfl) (by kernel_rfl) ?hQ36 ?hy36 (by assumption) ?rest36
  case hi36 => (simp only [List.getElem?_toArray, List.getElem?_cons_zero]; rfl)
  case hQ36 => exact fun _ _ _ h => h
  case hy36 => exact y_gp (w.heap.size + 1) s (fun V hV => hV.1) rfl rfl
  simp only [Act.put, List.setIfInBounds_toArray, List.set_cons_zero, List.set_cons_succ]
  refine wpAnyH_take (i := 2) (oi := ?oi37) (v := .agg s.cells) ?hi37 (by kernel_rfl) (by kernel_rfl) (by kernel_rfl) ?hQ37 ?hy37 (by assumption) ?rest37
  case hi37 => (simp only [List.getElem?_toArray, List.getElem?_cons_zero, List.getElem?_cons_succ]; rfl)
  case hQ37 => exact fun _ _ _ h => h
  case hy37 => exact y_gr w.heap.size s (fun V hV => hV.2.1) rfl rfl
  simp only [Act.put, List.setIfInBounds_toArray, List.set_cons_zero, List.set_cons_succ]
  refine wpAnyH_ready (rs := [1]) (by kernel_rfl) (by simp) ?_
  refine AllReadyH.cons (o := ?oi38) ?hi38 (fun K hK => ?_) AllReadyH.nil
  case hi38 => (simp only [List.getElem?_toArray, List.getElem?_cons_zero, List.getElem?_cons_succ]; rfl)
  go_simp
  (with_reducible refine (HL.out _).mono ?_)
  rintro e V ⟨rfl, hbc⟩
  have hH2 := hide (And.intro (hHeld.1.bl hbc) (And.intro (hHeld.2.1.bl hbc) (And.intro (hHeld.2.2.1.bl hbc) (below_bl rfl hHeld.2.2.2 hbc))))
  clear hHeld hbc
  go_simp
  refine hK.out _ _ ?_ (fun hHeld => ?_)
  · exact hH2.out
  clear hK K
  clear hH2
  refine wpAnyH_ready (rs := [3]) (by kernel_rfl) (by simp) ?_
  refine AllReadyH.cons (o := ?oi39) ?hi39 (fun K hK => ?_) AllReadyH.nil
  case hi39 => (simp only [List.getElem?_toArray, List.getElem?_cons_zero, List.getElem?_cons_succ]; rfl)
  go_simp
  (with_reducible refine (HRL.out _).mono ?_)
  rintro e V ⟨rfl, hbc⟩
  have hH2 := hide (And.intro (hHeld.1.bl hbc) (And.intro (hHeld.2.1.bl hbc) (And.intro (hHeld.2.2.1.bl hbc) (below_bl rfl hHeld.2.2.2 hbc))))
  clear hHeld hbc
  go_simp
  refine hK.out _ _ ?_ (fun hHeld => ?_)
  · exact hH2.out
  clear hK K
  clear hH2
  refine wpAnyH_take (i := 4) (oi := ?oi40) (v := .bool true) ?hi40 (by kernel_rfl) (by kernel_rfl) (by kernel_rfl) ?hQ40 ?hy40 (by assumption) ?rest40
  case hi40 => (simp only [List.getElem?_toArray, List.getElem?_cons_zero, List.getElem?_cons_succ]; rfl)
  case hQ40 => exact fun _ _ _ h => h
  case hy40 => exact Or.inl ⟨by rfl, by (intro w hSw; (try dsimp only at hSw); go_simp )⟩
  simp only [Act.put, List.setIfInBounds_toArray, List.set_cons_zero, List.set_cons_succ]
  refine wpAnyH_take (i := 5) (oi := ?oi41) (v := .bool true) ?hi41 (by kernel_rfl) (by kernel_rfl) (by kernel_rfl) ?hQ41 ?hy41 (by assumption) ?rest41
  case hi41 => (simp only [List.getElem?_toArray, List.getElem?_cons_zero, List.getElem?_cons_succ]; rfl)
  case hQ41 => exact fun _ _ _ h => h
  case hy41 => exact Or.inl ⟨by rfl, by (intro w hSw; (try dsimp only at hSw); go_simp )⟩
  simp only [Act.put, List.setIfInBounds_toArray, List.set_cons_zero, List.set_cons_succ]
  refine wpAnyH_take (i := 6) (oi := ?oi42) (v := .agg s.cells) ?hi42 (by kernel_rfl) (by kernel_rfl) (by kernel_rfl) ?hQ42 ?hy42 (by assumption) ?rest42
  case hi42 => (simp only [List.getElem?_toArray, List.getElem?_cons_zero, List.getElem?_cons_succ]; rfl)
  case hQ42 => exact fun _ _ _ h => h
  case hy42 => exact y_gp (w.heap.size + 1) s (fun V hV => hV.1) rfl rfl
  simp only [Act.put, List.setIfInBounds_toArray, List.set_cons_zero, List.set_cons_succ]
  refine wpAnyH_take (i := 8) (oi := ?oi43) (v := .agg s.cells) ?hi43 (by kernel_rfl) (by kernel_rfl) (by kernel_rfl) ?hQ43 ?hy43 (by assumption) ?rest43
  case hi43 => (simp only [List.getElem?_toArray, List.getElem?_cons_zero, List.getElem?_cons_succ]; rfl)
  case hQ43 => exact fun _ _ _ h => h
  case hy43 => exact y_gr w.heap.size s (fun V hV => hV.2.1) rfl rfl
  simp only [Act.put, List.setIfInBounds_toArray, List.set_cons_zero, List.set_cons_succ]
  refine wpAnyH_ready (rs := [7]) (by kernel_rfl) (by simp) ?_
  refine AllReadyH.cons (o := ?oi44) ?hi44 (fun K hK => ?_) AllReadyH.nil
  case hi44 => (simp only [List.getElem?_toArray, List.getElem?_cons_zero, List.getElem?_cons_succ]; rfl)
  rw [if_pos (by rfl)]
  go_simp
  (with_reducible refine (HX.out _).mono ?_)
  rintro e V ⟨rfl, hbc⟩
  have hH2 := hide (And.intro (hHeld.1.bl hbc) (And.intro (hHeld.2.1.bl hbc) (And.intro (hHeld.2.2.1.bl hbc) (below_bl rfl hHeld.2.2.2 hbc))))
  clear hHeld hbc
  go_simp
  refine hK.out _ _ ?_ (fun hHeld => ?_)
  · exact hH2.out
  clear hK K
  clear hH2
  refine wpAnyH_ready (rs := [9]) (by kernel_rfl) (by simp) ?_
  refine AllReadyH.cons (o := ?oi45) ?hi45 (fun K hK => ?_) AllReadyH.nil
  case hi45 => (simp only [List.getElem?_toArray, List.getElem?_cons_zero, List.getElem?_cons_succ]; rfl)
  rw [if_pos (by rfl)]
  go_simp
  (with_reducible refine (HRX.out _).mono ?_)
  rintro e V ⟨rfl, hbc⟩
  have hH2 := hide (And.intro (hHeld.1.bl hbc) (And.intro (hHeld.2.1.bl hbc) (And.intro (hHeld.2.2.1.bl hbc) (below_bl rfl hHeld.2.2.2 hbc))))
  clear hHeld hbc
  go_simp
  refine hK.out _ _ ?_ (fun hHeld => ?_)
  · exact hH2.out
  clear hK K
  clear hH2
  refine wpAnyH_take (i := 10) (oi := ?oi46) (v := .bool true) ?hi46 (by kernel_rfl) (by kernel_rfl) (by kernel_rfl) ?hQ46 ?hy46 (by assumption) ?rest46
  case hi46 => (simp only [List.getElem?_toArray, List.getElem?_cons_zero, List.getElem?_cons_succ]; rfl)
  case hQ46 => exact fun _ _ _ h => h
  case hy46 => exact Or.inl ⟨by rfl, by (intro w hSw; (try dsimp only at hSw); go_simp )⟩
  simp only [Act.put, List.setIfInBounds_toArray, List.set_cons_zero, List.set_cons_succ]
  refine wpAnyH_take (i := 11) (oi := ?oi47) (v := .bool true) ?hi47 (by kernel_rfl) (by kernel_rfl) (by kernel_rfl) ?hQ47 ?hy47 (by assumption) ?rest47
  case hi47 => (simp only [List.getElem?_toArray, List.getElem?_cons_zero, List.getElem?_cons_succ]; rfl)
  case hQ47 => exact fun _ _ _ h => h
  case hy47 => exact Or.inl ⟨by rfl, by (intro w hSw; (try dsimp only at hSw); go_simp )⟩
  simp only [Act.put, List.setIfInBounds_toArray, List.set_cons_zero, List.set_cons_succ]
  refine wpAnyH_take (i := 12) (oi := ?oi48) (v := .bool true) ?hi48 (by kernel_rfl) (by kernel_rfl) (by kernel_rfl) ?hQ48 ?hy48 (by assumption) ?rest48
  case hi48 => (simp only [List.getElem?_toArray, List.getElem?_cons_zero, List.getElem?_cons_succ]; rfl)
  case hQ48 => exact fun _ _ _ h => h
  case hy48 => exact Or.inl ⟨by rfl, by (intro w hSw; (try dsimp only at hSw); go_simp )⟩
  simp only [Act.put, List.setIfInBounds_toArray, List.set_cons_zero, List.set_cons_succ]
  refine wpAnyH_take (i := 13) (oi := ?oi49) (v := .agg s.cells) ?hi49 (by kernel_rfl) (by kernel_rfl) (by kernel_rfl) ?hQ49 ?hy49 (by assumption) ?rest49
  case hi49 => (simp only [List.getElem?_toArray, List.getElem?_cons_zero, List.getElem?_cons_succ]; rfl)
  case hQ49 => exact fun _ _ _ h => h
  case hy49 => exact y_gp (w.heap.size + 1) s (fun V hV => hV.1) rfl rfl
  simp only [Act.put, List.setIfInBounds_toArray, List.set_cons_zero, List.set_cons_succ]
  refine wpAnyH_take (i := 15) (oi := ?oi50) (v := (.agg s'.cells)) ?hi50 (by kernel_rfl) (by kernel_rfl) (by kernel_rfl) ?hQ50 ?hy50 (by assumption) ?rest50
  case hi50 => (simp only [List.getElem?_toArray, List.getElem?_cons_zero, List.getElem?_cons_succ]; rfl)
  case hQ50 => exact fun _ _ _ h => h
  case hy50 => exact y_gr (w.heap.size + 2) s' (fun V hV => hV.2.2.1) rfl rfl
  simp only [Act.put, List.setIfInBounds_toArray, List.set_cons_zero, List.set_cons_succ]
  refine wpAnyH_ready (rs := [14]) (by kernel_rfl) (by simp) ?_
  refine AllReadyH.cons (o := ?oi51) ?hi51 (fun K hK => ?_) AllReadyH.nil
  case hi51 => (simp only [List.getElem?_toArray, List.getElem?_cons_zero, List.getElem?_cons_succ]; rfl)
  rw [if_pos (by rfl)]
  go_simp
  (with_reducible refine (HT.out _).mono ?_)
  rintro e V ⟨rfl, hbc⟩
  have hH2 := hide (And.intro (hHeld.1.bl hbc) (And.intro (hHeld.2.1.bl hbc) (And.intro (hHeld.2.2.1.bl hbc) (below_bl rfl hHeld.2.2.2 hbc))))
  clear hHeld hbc
  go_simp
  refine hK.out _ _ ?_ (fun hHeld => ?_)
  · exact hH2.out
  clear hK K
  clear hH2
  refine wpAnyH_take (i := 16) (oi := ?oi52) (v := .bool true) ?hi52 (by kernel_rfl) (by kernel_rfl) (by kernel_rfl) ?hQ52 ?hy52 (by assumption) ?rest52
  case hi52 => (simp only [List.getElem?_toArray, List.getElem?_cons_zero, List.getElem?_cons_succ]; rfl)
  case hQ52 => exact fun _ _ _ h => h
  case hy52 => exact y_eqp s' rfl rfl rfl
  simp only [Act.put, List.setIfInBounds_toArray, List.set_cons_zero, List.set_cons_succ]
  refine wpAnyH_take (i := 17) (oi := ?oi53) (v := .bool true) ?hi53 (by kernel_rfl) (by kernel_rfl) (by kernel_rfl) ?hQ53 ?hy53 (by assumption) ?rest53
  case hi53 => (simp only [List.getElem?_toArray, List.getElem?_cons_zero, List.getElem?_cons_succ]; rfl)
  case hQ53 => exact fun _ _ _ h => h
  case hy53 => exact Or.inl ⟨by rfl, by (intro w hSw; (try dsimp only at hSw); go_simp )⟩
  simp only [Act.put, List.setIfInBounds_toArray, List.set_cons_zero, List.set_cons_succ]
  refine wpAnyH_take (i := 18) (oi := ?oi54) (v := .bool true) ?hi54 (by kernel_rfl) (by kernel_rfl) (by kernel_rfl) ?hQ54 ?hy54 (by assumption) ?rest54
  case hi54 => (simp only [List.getElem?_toArray, List.getElem?_cons_zero, List.getElem?_cons_succ]; rfl)
  case hQ54 => exact fun _ _ _ h => h
  case hy54 => exact Or.inl ⟨by rfl, by (intro w hSw; (try dsimp only at hSw); go_simp )⟩
  simp only [Act.put, List.setIfInBounds_toArray, List.set_cons_zero, List.set_cons_succ]
  refine wpAnyH_take (i := 19) (oi := ?oi55) (v := .agg s.cells) ?hi55 (by kernel_rfl) (by kernel_rfl) (by kernel_rfl) ?hQ55 ?hy55 (by assumption) ?rest55
  case hi55 => (simp only [List.getElem?_toArray, List.getElem?_cons_zero, List.getElem?_cons_succ]; rfl)
  case hQ55 => exact fun _ _ _ h => h
  case hy55 => exact y_gp (w.heap.size + 1) s (fun V hV => hV.1) rfl rfl
  simp only [Act.put, List.setIfInBounds_toArray, List.set_cons_zero, List.set_cons_succ]
  refine wpAnyH_take (i := 22) (oi := ?oi56) (v := (.agg s'.cells)) ?hi56 (by kernel_rfl) (by kernel_rfl) (by kernel_rfl) ?hQ56 ?hy56 (by assumption) ?rest56
  case hi56 => (simp only [List.getElem?_toArray, List.getElem?_cons_zero, List.getElem?_cons_succ]; rfl)
  case hQ56 => exact fun _ _ _ h => h
  case hy56 => exact y_gr (w.heap.size + 2) s' (fun V hV => hV.2.2.1) rfl rfl
  simp only [Act.put, List.setIfInBounds_toArray, List.set_cons_zero, List.set_cons_succ]
  refine wpAnyH_ready (rs := [20]) (by kernel_rfl) (by simp) ?_
  refine AllReadyH.cons (o := ?oi57) ?hi57 (fun K hK => ?_) AllReadyH.nil
  case hi57 => (simp only [List.getElem?_toArray, List.getElem?_cons_zero, List.getElem?_cons_succ]; rfl)
  rw [if_pos (by rfl)]
  go_simp
  (with_reducible refine (HT.out _).mono ?_)
  rintro e V ⟨rfl, hbc⟩
  have hH2 := hide (And.intro (hHeld.1.bl hbc) (And.intro (hHeld.2.1.bl hbc) (And.intro (hHeld.2.2.1.bl hbc) (below_bl rfl hHeld.2.2.2 hbc))))
  clear hHeld hbc
  go_simp
  refine hK.out _ _ ?_ (fun hHeld => ?_)
  · exact hH2.out
  clear hK K
  clear hH2
  refine wpAnyH_ready (rs := [21]) (by kernel_rfl) (by simp) ?_
  refine AllReadyH.cons (o := ?oi58) ?hi58 (fun K hK => ?_) AllReadyH.nil
  case hi58 => (simp only [List.getElem?_toArray, List.getElem?_cons_zero, List.getElem?_cons_succ]; rfl)
  rw [if_pos (by rfl)]
  go_simp
  (with_reducible refine (HL'.out _).mono ?_)
  rintro e V ⟨rfl, hbc⟩
  have hH2 := hide (And.intro (hHeld.1.bl hbc) (And.intro (hHeld.2.1.bl hbc) (And.intro (hHeld.2.2.1.bl hbc) (below_bl rfl hHeld.2.2.2 hbc))))
  clear hHeld hbc
  go_simp
  refine hK.out _ _ ?_ (fun hHeld => ?_)
  · exact hH2.out
  clear hK K
  clear hH2
  refine wpAnyH_ready (rs := [23]) (by kernel_rfl) (by simp) ?_
  refine AllReadyH.cons (o := ?oi59) ?hi59 (fun K hK => ?_) AllReadyH.nil
  case hi59 => (simp only [List.getElem?_toArray, List.getElem?_cons_zero, List.getElem?_cons_succ]; rfl)
  rw [if_pos (by rfl)]
  go_simp
  (with_reducible refine (HRL'.out _).mono ?_)
  rintro e V ⟨rfl, hbc⟩
  have hH2 := hide (And.intro (hHeld.1.bl hbc) (And.intro (hHeld.2.1.bl hbc) (And.intro (hHeld.2.2.1.bl hbc) (below_bl rfl hHeld.2.2.2 hbc))))
  clear hHeld hbc
  go_simp
  refine hK.out _ _ ?_ (fun hHeld => ?_)
  · exact hH2.out
  clear hK K
  clear hH2
  refine wpAnyH_take (i := 24) (oi := ?oi60) (v := .bool true) ?hi60 (by kernel_rfl) (by kernel_rfl) (by kernel_rfl) ?hQ60 ?hy60 (by assumption) ?rest60
  case hi60 => (simp only [List.getElem?_toArray, List.getElem?_cons_zero, List.getElem?_cons_succ]; rfl)
  case hQ60 => exact fun _ _ _ h => h
  case hy60 => exact Or.inl ⟨by rfl, by (intro w hSw; (try dsimp only at hSw); go_simp )⟩
  simp only [Act.put, List.setIfInBounds_toArray, List.set_cons_zero, List.set_cons_succ]
  refine wpAnyH_take (i := 25) (oi := ?oi61) (v := .bool true) ?hi61 (by kernel_rfl) (by kernel_rfl) (by kernel_rfl) ?hQ61 ?hy61 (by assumption) ?rest61
  case hi61 => (simp only [List.getElem?_toArray, List.getElem?_cons_zero, List.getElem?_cons_succ]; rfl)
  case hQ61 => exact fun _ _ _ h => h
  case hy61 => exact Or.inl ⟨by rfl, by (intro w hSw; (try dsimp only at hSw); go_simp )⟩
  simp only [Act.put, List.setIfInBounds_toArray, List.set_cons_zero, List.set_cons_succ]
  refine wpAnyH_take (i := 26) (oi := ?oi62) (v := .bool true) ?hi62 (by kernel_rfl) (by kernel_rfl) (by kernel_rfl) ?hQ62 ?hy62 (by assumption) ?rest62
  case hi62 => (simp only [List.getElem?_toArray, List.getElem?_cons_zero, List.getElem?_cons_succ]; rfl)
  case hQ62 => exact fun _ _ _ h => h
  case hy62 => exact Or.inl ⟨by rfl, by (intro w hSw; (try dsimp only at hSw); go_simp )⟩
  simp only [Act.put, List.setIfInBounds_toArray, List.set_cons_zero, List.set_cons_succ]
  refine wpAnyH_ready (rs := [27]) (by kernel_rfl) (by simp) ?_
  refine AllReadyH.cons (o := ?oi63) ?hi63 (fun K hK => ?_) AllReadyH.nil
  case hi63 => (simp only [List.getElem?_toArray, List.getElem?_cons_zero, List.getElem?_cons_succ]; rfl)
  rw [if_pos (by rfl)]
  go_simp
  (with_reducible refine (HS.out _).mono ?_)
  rintro e V ⟨rfl, hbc⟩
  have hH2 := hide (And.intro (hHeld.1.bl hbc) (And.intro (hHeld.2.1.bl hbc) (And.intro (hHeld.2.2.1.bl hbc) (below_bl rfl hHeld.2.2.2 hbc))))
  clear hHeld hbc
  go_simp
  refine hK.out _ _ ?_ (fun hHeld => ?_)
  · exact hH2.out
  clear hK K
  clear hH2
  refine wpAnyH_take (i := 28) (oi := ?oi64) (v := .bool true) ?hi64 (by kernel_rfl) (by kernel_rfl) (by kernel_rfl) ?hQ64 ?hy64 (by assumption) ?rest64
  case hi64 => (simp only [List.getElem?_toArray, List.getElem?_cons_zero, List.getElem?_cons_succ]; rfl)
  case hQ64 => exact fun _ _ _ h => h
  case hy64 => exact Or.inl ⟨by rfl, by (intro w hSw; (try dsimp only at hSw); go_simp )⟩
  simp only [Act.put, List.setIfInBounds_toArray, List.set_cons_zero, List.set_cons_succ]
  refine wpAnyH_take (i := 29) (oi := ?oi65) (v := .bool true) ?hi65 (by kernel_rfl) (by kernel_rfl) (by kernel_rfl) ?hQ65 ?hy65 (by assumption) ?rest65
  case hi65 => (simp only [List.getElem?_toArray, List.getElem?_cons_zero, List.getElem?_cons_succ]; rfl)
  case hQ65 => exact fun _ _ _ h => h
  case hy65 => exact Or.inl ⟨by rfl, by (intro w hSw; (try dsimp only at hSw); go_simp )⟩
  simp only [Act.put, List.setIfInBounds_toArray, List.set_cons_zero, List.set_cons_succ]
  refine wpAnyH_done (by kernel_rfl) ?_ _
  have hb := hHeld.2.2.2
  clear hHeld
  go_wp2
  go_ret
  exact ⟨rfl, hb⟩

theorem lines_walk (s : S3) (hs : s.Ok) (w : World) :
    Calls Try.prog 5 #[.agg s.cells] w fun e w' => e = .returned (.bool true) ∧ Below w.heap.size w w' := by
  have := hs.ti
  by_cases h : s.ti = 18446744073709551615
  · exact lines_top s hs h w
  · exact lines_one s hs (by omega) w
end Go.Proofs.Ytjibjginafjpcaa
