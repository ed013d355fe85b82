/-
  The document's Tick, where an order is read.
-/
import Derived.Test.YtalcgipcephnnaaDoorJDmRT1
namespace Go.Proofs.YtalcgipcephnnaaDoor
open Go.RowKit
set_option linter.unusedVariables false
set_option linter.unusedSimpArgs false

attribute [local go_sem] E.at0 E.at1 E.at2 E.at3 E.at4 E.at5 E.at6 E.at7 E.at8 E.at9 E.at10
set_option maxRecDepth 20000 in
set_option maxHeartbeats 4000000 in
theorem rt_bad {w : World} (s : E) (ok : s.Ok) {N p : Nat} {f : Nat → Nat} {r : RP} (h : RefAt w N p f r) (hmay : mayE s = false) : Calls Tryd.prog 19 #[.agg s.cells, .agg (r.v N p)] w fun e w' => ∃ r' : RP, e = .returned (.tuple #[.agg (s).cells, .agg (r'.v N p)]) ∧ RefAt w' N p (f) r' ∧ (∀ x, r'.owns x → r.owns x ∨ w.heap.size ≤ x) ∧ Below w.heap.size w w' := by
  have HRf := hide h
  have hpf := h.few
  have hp1 : p ≤ 16384 := hpf.2.1
  have hNp := hide hpf.2.2
  clear h hpf
  have HC := hide (fun w => rcheck_any s w)
  rw [hmay, show chkE false = 1 from rfl] at HC
  go_enter Tryd.func19, Tryd.ntmps19
  go_wp2_with (first | ((with_reducible refine bx_er w.heap.size s ?_ ?_ ?_); exact rfl; exact rfl; intro W hs hb hz) | ((with_reducible refine bx_R (w.heap.size + 1) r N p ?_ ?_ ?_); exact hz.out; exact rfl; intro W hm hb' hz'; replace hs := hs.bl (hz.out ▸ hb'); replace hb := hb.trans (hb'.mono (by omega)); replace hz := hz'; clear hb' hz') | ((with_reducible refine al_er (w.heap.size + 1 + 1) ?_ ?_); exact hz.out; intro W hq hb' hz'; replace hs := hs.bl (hz.out ▸ hb'); replace hm := hm.bl (hz.out ▸ hb'); replace hb := hb.trans (hb'.mono (by omega)); replace hz := hz'; clear hb' hz') | ((with_reducible refine al_Rz (w.heap.size + 1 + 1 + 1) ?_ ?_); exact hz.out; intro W hu hb' hz'; replace hs := hs.bl (hz.out ▸ hb'); replace hm := hm.bl (hz.out ▸ hb'); replace hq := hq.bl (hz.out ▸ hb'); replace hb := hb.trans (hb'.mono (by omega)); have hS4 : w.heap.size + 4 ≤ W.heap.size := (by have := hz'.out; omega); have fx := hs.cell; clear hb' hz' hz) | ((with_reducible refine ld_er w.heap.size _ hs ?_ ?_ ?_); exact rfl; exact rfl) | (go_at_call 15; (with_reducible refine (HC.out _).mono ?_); rintro e W ⟨rfl, hbc⟩; replace hs := hs.bl hbc; replace hm := hm.bl hbc; replace hq := hq.bl hbc; replace hu := hu.bl hbc; replace hS4 := Nat.le_trans hS4 hbc.size; replace fx := hs.cell; replace hb := below_bl rfl hb hbc; clear hbc))
  refine wp_region_held_drew (S := (fun V => RowAt V w.heap.size s.cells 24 ∧ RowAt V (w.heap.size + 1) (r.v N p) 46 ∧ Below w.heap.size w V)) (by kernel_rfl) ?_ (fun hHeld => ?_)
  · exact ⟨hs.dr, hm.dr, hb.drew⟩
  replace hq := hq.dr
  replace hu := hu.dr
  generalize World.drew _ = V at hHeld hq hu ⊢
  refine wpAnyH_take (i := 0) (oi := ?oi1) (v := .agg s.cells) ?hi1 (by kernel_rfl) (by kernel_rfl) (by kernel_rfl) ?hQ1 ?hy1 (by assumption) ?rest1
  case hi1 => (simp only [List.getElem?_toArray, List.getElem?_cons_zero]; rfl)
  case hQ1 => exact fun _ _ _ h => h
  case hy1 => exact y_er w.heap.size s (fun V hV => hV.1) rfl rfl
  simp only [Act.put, List.setIfInBounds_toArray, List.set_cons_zero, List.set_cons_succ]
  refine wpAnyH_take (i := 1) (oi := ?oi2) (v := .agg (r.v N p)) ?hi2 (by kernel_rfl) (by kernel_rfl) (by kernel_rfl) ?hQ2 ?hy2 (by assumption) ?rest2
  case hi2 => (simp only [List.getElem?_toArray, List.getElem?_cons_zero, List.getElem?_cons_succ]; rfl)
  case hQ2 => exact fun _ _ _ h => h
  case hy2 => exact y_Rw (w.heap.size + 1) r N p (fun V hV => hV.2.1) rfl
  simp only [Act.put, List.setIfInBounds_toArray, List.set_cons_zero, List.set_cons_succ]
  refine wpAnyH_ready (rs := [2]) (by kernel_rfl) (by simp) ?_
  refine AllReadyH.cons (o := ?oi3) ?hi3 (fun K hK => ?_) AllReadyH.nil
  case hi3 => (simp only [List.getElem?_toArray, List.getElem?_cons_zero, List.getElem?_cons_succ]; rfl)
  rw [if_pos (by rfl)]
  (with_reducible refine s_er (w.heap.size + 1 + 1) _ s hq ?_ ?_ ?_)
  · exact rfl
  · exact rfl
  intro V3 hnew hoo
  have hH2 := hide (And.intro (hHeld.1.only hoo (by omega)) (And.intro (hHeld.2.1.only hoo (by omega)) (hoo.bel _ _ (by omega) hHeld.2.2)))
  replace hu := hu.only hoo (by omega)
  replace hq := hnew
  clear hHeld hnew hoo
  refine hK.out _ _ ?_ (fun hHeld => ?_)
  · exact hH2.out
  clear hK K
  clear hH2
  refine wpAnyH_ready (rs := [3]) (by kernel_rfl) (by simp) ?_
  refine AllReadyH.cons (o := ?oi4) ?hi4 (fun K hK => ?_) AllReadyH.nil
  case hi4 => (simp only [List.getElem?_toArray, List.getElem?_cons_zero, List.getElem?_cons_succ]; rfl)
  rw [if_pos (by rfl)]
  (with_reducible refine s_stR (w.heap.size + 1 + 1 + 1) _ r N p hu ?_ ?_ ?_ ?_)
  · exact rfl
  · exact rfl
  · exact rfl
  intro V4 hnew hoo
  have hH2 := hide (And.intro (hHeld.1.only hoo (by omega)) (And.intro (hHeld.2.1.only hoo (by omega)) (hoo.bel _ _ (by omega) hHeld.2.2)))
  replace hq := hq.only hoo (by omega)
  replace hu := hnew
  clear hHeld hnew hoo
  refine hK.out _ _ ?_ (fun hHeld => ?_)
  · exact hH2.out
  clear hK K
  clear hH2
  refine wpAnyH_done (by kernel_rfl) ?_ _
  go_wp2_with (fail)
  refine bodyPost_ret (results_two_rows Tryd.results19 _ _ (w.heap.size + 1 + 1) (w.heap.size + 1 + 1 + 1) _ _ _ _ _ _ rfl hq Tryd.underlying24 rfl size_er rfl hu Tryd.underlying46 rfl size_R) rfl ?_
  exact ⟨r, rfl, HRf.out.bl hHeld.2.2, fun x hx => .inl hx, hHeld.2.2⟩
set_option maxRecDepth 20000 in
set_option maxHeartbeats 4000000 in
theorem rt_idle {w : World} (s : E) (ok : s.Ok) {N p : Nat} {f : Nat → Nat} {r : RP} (h : RefAt w N p f r) (hmay : mayE s = true) (h1 : s.cd ≠ 1) : Calls Tryd.prog 19 #[.agg s.cells, .agg (r.v N p)] w fun e w' => ∃ r' : RP, e = .returned (.tuple #[.agg (s).cells, .agg (r'.v N p)]) ∧ RefAt w' N p (f) r' ∧ (∀ x, r'.owns x → r.owns x ∨ w.heap.size ≤ x) ∧ Below w.heap.size w w' := by
  have HRf := hide h
  have hpf := h.few
  have hp1 : p ≤ 16384 := hpf.2.1
  have hNp := hide hpf.2.2
  clear h hpf
  have HC := hide (fun w => rcheck_any s w)
  rw [hmay, show chkE true = 0 from rfl] at HC
  have t1 : ((s.cd : Int) == 1) = false := (castq s.cd 1).trans (by simp [h1])
  clear h1
  go_enter Tryd.func19, Tryd.ntmps19
  go_wp2_with (first | ((with_reducible refine bx_er w.heap.size s ?_ ?_ ?_); exact rfl; exact rfl; intro W hs hb hz) | ((with_reducible refine bx_R (w.heap.size + 1) r N p ?_ ?_ ?_); exact hz.out; exact rfl; intro W hm hb' hz'; replace hs := hs.bl (hz.out ▸ hb'); replace hb := hb.trans (hb'.mono (by omega)); replace hz := hz'; clear hb' hz') | ((with_reducible refine al_er (w.heap.size + 1 + 1) ?_ ?_); exact hz.out; intro W hq hb' hz'; replace hs := hs.bl (hz.out ▸ hb'); replace hm := hm.bl (hz.out ▸ hb'); replace hb := hb.trans (hb'.mono (by omega)); replace hz := hz'; clear hb' hz') | ((with_reducible refine al_Rz (w.heap.size + 1 + 1 + 1) ?_ ?_); exact hz.out; intro W hu hb' hz'; replace hs := hs.bl (hz.out ▸ hb'); replace hm := hm.bl (hz.out ▸ hb'); replace hq := hq.bl (hz.out ▸ hb'); replace hb := hb.trans (hb'.mono (by omega)); have hS4 : w.heap.size + 4 ≤ W.heap.size := (by have := hz'.out; omega); have fx := hs.cell; clear hb' hz' hz) | ((with_reducible refine ld_er w.heap.size _ hs ?_ ?_ ?_); exact rfl; exact rfl) | (go_at_call 15; (with_reducible refine (HC.out _).mono ?_); rintro e W ⟨rfl, hbc⟩; replace hs := hs.bl hbc; replace hm := hm.bl hbc; replace hq := hq.bl hbc; replace hu := hu.bl hbc; replace hS4 := Nat.le_trans hS4 hbc.size; replace fx := hs.cell; replace hb := below_bl rfl hb hbc; clear hbc))
  refine wp_region_held_drew (S := (fun V => RowAt V w.heap.size s.cells 24 ∧ RowAt V (w.heap.size + 1) (r.v N p) 46 ∧ Below w.heap.size w V)) (by kernel_rfl) ?_ (fun hHeld => ?_)
  · exact ⟨hs.dr, hm.dr, hb.drew⟩
  replace hq := hq.dr
  replace hu := hu.dr
  generalize World.drew _ = V at hHeld hq hu ⊢
  refine wpAnyH_take (i := 0) (oi := ?oi5) (v := .agg s.cells) ?hi5 (by kernel_rfl) (by kernel_rfl) (by kernel_rfl) ?hQ5 ?hy5 (by assumption) ?rest5
  case hi5 => (simp only [List.getElem?_toArray, List.getElem?_cons_zero]; rfl)
  case hQ5 => exact fun _ _ _ h => h
  case hy5 => exact y_er w.heap.size s (fun V hV => hV.1) rfl rfl
  simp only [Act.put, List.setIfInBounds_toArray, List.set_cons_zero, List.set_cons_succ]
  refine wpAnyH_take (i := 1) (oi := ?oi6) (v := .agg (r.v N p)) ?hi6 (by kernel_rfl) (by kernel_rfl) (by kernel_rfl) ?hQ6 ?hy6 (by assumption) ?rest6
  case hi6 => (simp only [List.getElem?_toArray, List.getElem?_cons_zero, List.getElem?_cons_succ]; rfl)
  case hQ6 => exact fun _ _ _ h => h
  case hy6 => exact y_Rw (w.heap.size + 1) r N p (fun V hV => hV.2.1) rfl
  simp only [Act.put, List.setIfInBounds_toArray, List.set_cons_zero, List.set_cons_succ]
  refine wpAnyH_ready (rs := [2]) (by kernel_rfl) (by simp) ?_
  refine AllReadyH.cons (o := ?oi7) ?hi7 (fun K hK => ?_) AllReadyH.nil
  case hi7 => (simp only [List.getElem?_toArray, List.getElem?_cons_zero, List.getElem?_cons_succ]; rfl)
  rw [if_pos (by rfl)]
  (with_reducible refine s_er (w.heap.size + 1 + 1) _ s hq ?_ ?_ ?_)
  · exact rfl
  · exact rfl
  intro V3 hnew hoo
  have hH2 := hide (And.intro (hHeld.1.only hoo (by omega)) (And.intro (hHeld.2.1.only hoo (by omega)) (hoo.bel _ _ (by omega) hHeld.2.2)))
  replace hu := hu.only hoo (by omega)
  replace hq := hnew
  clear hHeld hnew hoo
  refine hK.out _ _ ?_ (fun hHeld => ?_)
  · exact hH2.out
  clear hK K
  clear hH2
  refine wpAnyH_ready (rs := [3]) (by kernel_rfl) (by simp) ?_
  refine AllReadyH.cons (o := ?oi8) ?hi8 (fun K hK => ?_) AllReadyH.nil
  case hi8 => (simp only [List.getElem?_toArray, List.getElem?_cons_zero, List.getElem?_cons_succ]; rfl)
  rw [if_pos (by rfl)]
  (with_reducible refine s_stR (w.heap.size + 1 + 1 + 1) _ r N p hu ?_ ?_ ?_ ?_)
  · exact rfl
  · exact rfl
  · exact rfl
  intro V4 hnew hoo
  have hH2 := hide (And.intro (hHeld.1.only hoo (by omega)) (And.intro (hHeld.2.1.only hoo (by omega)) (hoo.bel _ _ (by omega) hHeld.2.2)))
  replace hq := hq.only hoo (by omega)
  replace hu := hnew
  clear hHeld hnew hoo
  refine hK.out _ _ ?_ (fun hHeld => ?_)
  · exact hH2.out
  clear hK K
  clear hH2
  refine wpAnyH_done (by kernel_rfl) ?_ _
  go_wp2_with (fail)
  refine bodyPost_ret (results_two_rows Tryd.results19 _ _ (w.heap.size + 1 + 1) (w.heap.size + 1 + 1 + 1) _ _ _ _ _ _ rfl hq Tryd.underlying24 rfl size_er rfl hu Tryd.underlying46 rfl size_R) rfl ?_
  exact ⟨r, rfl, HRf.out.bl hHeld.2.2, fun x hx => .inl hx, hHeld.2.2⟩
set_option maxRecDepth 20000 in
set_option maxHeartbeats 4000000 in
theorem rt_64 {w : World} (s : E) (ok : s.Ok) {N p : Nat} {f : Nat → Nat} {r : RP} (h : RefAt w N p f r) (hmay : mayE s = true) (h1 : s.cd = 1) (h2 : s.hv = false) (h3 : s.st = 64) : Calls Tryd.prog 19 #[.agg s.cells, .agg (r.v N p)] w fun e w' => ∃ r' : RP, e = .returned (.tuple #[.agg (endE s 3).cells, .agg (r'.v N p)]) ∧ RefAt w' N p (f) r' ∧ (∀ x, r'.owns x → r.owns x ∨ w.heap.size ≤ x) ∧ Below w.heap.size w w' := by
  have HRf := hide h
  have hpf := h.few
  have hp1 : p ≤ 16384 := hpf.2.1
  have hNp := hide hpf.2.2
  clear h hpf
  have HC := hide (fun w => rcheck_any s w)
  rw [hmay, show chkE true = 0 from rfl] at HC
  have t1 : ((s.cd : Int) == 1) = true := (castq s.cd 1).trans (by simp [h1])
  have HFl : Hid (∀ W, Calls Tryd.prog 37 #[.agg s.cells] W fun e w' => e = .returned (.agg (endE s 3).cells) ∧ Below W.heap.size W w') := hide (fun W => rfail_any s W)
  have t2 : (63 : Int) < (s.st : Int) := by omega
  have hv0 : s.hv = false := h2
  clear h1 h2 h3
  go_enter Tryd.func19, Tryd.ntmps19
  go_wp2_with (first | ((with_reducible refine bx_er w.heap.size s ?_ ?_ ?_); exact rfl; exact rfl; intro W hs hb hz) | ((with_reducible refine bx_R (w.heap.size + 1) r N p ?_ ?_ ?_); exact hz.out; exact rfl; intro W hm hb' hz'; replace hs := hs.bl (hz.out ▸ hb'); replace hb := hb.trans (hb'.mono (by omega)); replace hz := hz'; clear hb' hz') | ((with_reducible refine al_er (w.heap.size + 1 + 1) ?_ ?_); exact hz.out; intro W hq hb' hz'; replace hs := hs.bl (hz.out ▸ hb'); replace hm := hm.bl (hz.out ▸ hb'); replace hb := hb.trans (hb'.mono (by omega)); replace hz := hz'; clear hb' hz') | ((with_reducible refine al_Rz (w.heap.size + 1 + 1 + 1) ?_ ?_); exact hz.out; intro W hu hb' hz'; replace hs := hs.bl (hz.out ▸ hb'); replace hm := hm.bl (hz.out ▸ hb'); replace hq := hq.bl (hz.out ▸ hb'); replace hb := hb.trans (hb'.mono (by omega)); have hS4 : w.heap.size + 4 ≤ W.heap.size := (by have := hz'.out; omega); have fx := hs.cell; clear hb' hz' hz) | ((with_reducible refine ld_er w.heap.size _ hs ?_ ?_ ?_); exact rfl; exact rfl) | (go_at_call 15; (with_reducible refine (HC.out _).mono ?_); rintro e W ⟨rfl, hbc⟩; replace hs := hs.bl hbc; replace hm := hm.bl hbc; replace hq := hq.bl hbc; replace hu := hu.bl hbc; replace hS4 := Nat.le_trans hS4 hbc.size; replace fx := hs.cell; replace hb := below_bl rfl hb hbc; clear hbc))
  refine wp_region_held_drew (S := (fun V => RowAt V w.heap.size s.cells 24 ∧ RowAt V (w.heap.size + 1) (r.v N p) 46 ∧ Below w.heap.size w V)) (by kernel_rfl) ?_ (fun hHeld => ?_)
  · exact ⟨hs.dr, hm.dr, hb.drew⟩
  replace hq := hq.dr
  replace hu := hu.dr
  generalize World.drew _ = V at hHeld hq hu ⊢
  refine wpAnyH_take (i := 0) (oi := ?oi9) (v := .agg s.cells) ?hi9 (by kernel_rfl) (by kernel_rfl) (by kernel_rfl) ?hQ9 ?hy9 (by assumption) ?rest9
  case hi9 => (simp only [List.getElem?_toArray, List.getElem?_cons_zero]; rfl)
  case hQ9 => exact fun _ _ _ h => h
  case hy9 => exact y_er w.heap.size s (fun V hV => hV.1) rfl rfl
  simp only [Act.put, List.setIfInBounds_toArray, List.set_cons_zero, List.set_cons_succ]
  refine wpAnyH_take (i := 2) (oi := ?oi10) (v := .agg (r.v N p)) ?hi10 (by kernel_rfl) (by kernel_rfl) (by kernel_rfl) ?hQ10 ?hy10 (by assumption) ?rest10
  case hi10 => (simp only [List.getElem?_toArray, List.getElem?_cons_zero, List.getElem?_cons_succ]; rfl)
  case hQ10 => exact fun _ _ _ h => h
  case hy10 => exact y_Rw (w.heap.size + 1) r N p (fun V hV => hV.2.1) rfl
  simp only [Act.put, List.setIfInBounds_toArray, List.set_cons_zero, List.set_cons_succ]
  refine wpAnyH_ready (rs := [1]) (by kernel_rfl) (by simp) ?_
  refine AllReadyH.cons (o := ?oi11) ?hi11 (fun K hK => ?_) AllReadyH.nil
  case hi11 => (simp only [List.getElem?_toArray, List.getElem?_cons_zero, List.getElem?_cons_succ]; rfl)
  go_simp
  (with_reducible refine (HFl.out _).mono ?_)
  rintro e V2 ⟨rfl, hbc⟩
  have hH2 := hide (And.intro (hHeld.1.bl hbc) (And.intro (hHeld.2.1.bl hbc) (below_bl rfl hHeld.2.2 hbc)))
  replace hq := hq.bl hbc
  replace hu := hu.bl hbc
  clear hHeld hbc
  go_simp
  refine hK.out _ _ ?_ (fun hHeld => ?_)
  · exact hH2.out
  clear hK K
  clear hH2
  refine wpAnyH_ready (rs := [3]) (by kernel_rfl) (by simp) ?_
  refine AllReadyH.cons (o := ?oi12) ?hi12 (fun K hK => ?_) AllReadyH.nil
  case hi12 => (simp only [List.getElem?_toArray, List.getElem?_cons_zero, List.getElem?_cons_succ]; rfl)
  rw [if_pos (by rfl)]
  (with_reducible refine s_er (w.heap.size + 1 + 1) _ (endE s 3) hq ?_ ?_ ?_)
  · exact rfl
  · exact rfl
  intro V3 hnew hoo
  have hH2 := hide (And.intro (hHeld.1.only hoo (by omega)) (And.intro (hHeld.2.1.only hoo (by omega)) (hoo.bel _ _ (by omega) hHeld.2.2)))
  replace hu := hu.only hoo (by omega)
  replace hq := hnew
  clear hHeld hnew hoo
  refine hK.out _ _ ?_ (fun hHeld => ?_)
  · exact hH2.out
  clear hK K
  clear hH2
  refine wpAnyH_ready (rs := [4]) (by kernel_rfl) (by simp) ?_
  refine AllReadyH.cons (o := ?oi13) ?hi13 (fun K hK => ?_) AllReadyH.nil
  case hi13 => (simp only [List.getElem?_toArray, List.getElem?_cons_zero, List.getElem?_cons_succ]; rfl)
  rw [if_pos (by rfl)]
  (with_reducible refine s_stR (w.heap.size + 1 + 1 + 1) _ r N p hu ?_ ?_ ?_ ?_)
  · exact rfl
  · exact rfl
  · exact rfl
  intro V4 hnew hoo
  have hH2 := hide (And.intro (hHeld.1.only hoo (by omega)) (And.intro (hHeld.2.1.only hoo (by omega)) (hoo.bel _ _ (by omega) hHeld.2.2)))
  replace hq := hq.only hoo (by omega)
  replace hu := hnew
  clear hHeld hnew hoo
  refine hK.out _ _ ?_ (fun hHeld => ?_)
  · exact hH2.out
  clear hK K
  clear hH2
  refine wpAnyH_done (by kernel_rfl) ?_ _
  go_wp2_with (fail)
  refine bodyPost_ret (results_two_rows Tryd.results19 _ _ (w.heap.size + 1 + 1) (w.heap.size + 1 + 1 + 1) _ _ _ _ _ _ rfl hq Tryd.underlying24 rfl size_er rfl hu Tryd.underlying46 rfl size_R) rfl ?_
  exact ⟨r, rfl, HRf.out.bl hHeld.2.2, fun x hx => .inl hx, hHeld.2.2⟩
set_option maxRecDepth 20000 in
set_option maxHeartbeats 4000000 in
theorem rt_odd {w : World} (s : E) (ok : s.Ok) {N p : Nat} {f : Nat → Nat} {r : RP} (h : RefAt w N p f r) (hmay : mayE s = true) (h1 : s.cd = 1) (h2 : s.hv = false) (h3 : s.st < 64) (h4 : s.pl % 4 ≠ 0) : Calls Tryd.prog 19 #[.agg s.cells, .agg (r.v N p)] w fun e w' => ∃ r' : RP, e = .returned (.tuple #[.agg (endE s 3).cells, .agg (r'.v N p)]) ∧ RefAt w' N p (f) r' ∧ (∀ x, r'.owns x → r.owns x ∨ w.heap.size ≤ x) ∧ Below w.heap.size w w' := by
  have HRf := hide h
  have hpf := h.few
  have hp1 : p ≤ 16384 := hpf.2.1
  have hNp := hide hpf.2.2
  clear h hpf
  have HC := hide (fun w => rcheck_any s w)
  rw [hmay, show chkE true = 0 from rfl] at HC
  have t1 : ((s.cd : Int) == 1) = true := (castq s.cd 1).trans (by simp [h1])
  have HFl : Hid (∀ W, Calls Tryd.prog 37 #[.agg s.cells] W fun e w' => e = .returned (.agg (endE s 3).cells) ∧ Below W.heap.size W w') := hide (fun W => rfail_any s W)
  have t2 : decide ((63 : Int) < (s.st : Int)) = false := by simp; omega
  have t2n : decide (63 < s.st) = false := by simp; omega
  have e4 : (s.pl : Int) % 4 = ((s.pl % 4 : Nat) : Int) := by omega
  obtain ⟨q4, hq4⟩ : ∃ q, s.pl % 4 = q := ⟨_, rfl⟩
  rw [hq4] at e4
  have t3 : ((q4 : Int) == 0) = false := (castq q4 0).trans (by simp; omega)
  have t5 : ¬ q4 = 0 := by omega
  have t6 : (q4 == 0) = false := by simp; omega
  have t4 : (s.pl : Int).tmod 4 = (q4 : Int) := by rw [Int.tmod_eq_emod_of_nonneg (by omega)]; exact e4
  clear h1 h3 h4
  go_enter Tryd.func19, Tryd.ntmps19
  go_wp2_with (first | ((with_reducible refine bx_er w.heap.size s ?_ ?_ ?_); exact rfl; exact rfl; intro W hs hb hz) | ((with_reducible refine bx_R (w.heap.size + 1) r N p ?_ ?_ ?_); exact hz.out; exact rfl; intro W hm hb' hz'; replace hs := hs.bl (hz.out ▸ hb'); replace hb := hb.trans (hb'.mono (by omega)); replace hz := hz'; clear hb' hz') | ((with_reducible refine al_er (w.heap.size + 1 + 1) ?_ ?_); exact hz.out; intro W hq hb' hz'; replace hs := hs.bl (hz.out ▸ hb'); replace hm := hm.bl (hz.out ▸ hb'); replace hb := hb.trans (hb'.mono (by omega)); replace hz := hz'; clear hb' hz') | ((with_reducible refine al_Rz (w.heap.size + 1 + 1 + 1) ?_ ?_); exact hz.out; intro W hu hb' hz'; replace hs := hs.bl (hz.out ▸ hb'); replace hm := hm.bl (hz.out ▸ hb'); replace hq := hq.bl (hz.out ▸ hb'); replace hb := hb.trans (hb'.mono (by omega)); have hS4 : w.heap.size + 4 ≤ W.heap.size := (by have := hz'.out; omega); have fx := hs.cell; clear hb' hz' hz) | ((with_reducible refine ld_er w.heap.size _ hs ?_ ?_ ?_); exact rfl; exact rfl) | (go_at_call 15; (with_reducible refine (HC.out _).mono ?_); rintro e W ⟨rfl, hbc⟩; replace hs := hs.bl hbc; replace hm := hm.bl hbc; replace hq := hq.bl hbc; replace hu := hu.bl hbc; replace hS4 := Nat.le_trans hS4 hbc.size; replace fx := hs.cell; replace hb := below_bl rfl hb hbc; clear hbc))
  refine wp_region_held_drew (S := (fun V => RowAt V w.heap.size s.cells 24 ∧ RowAt V (w.heap.size + 1) (r.v N p) 46 ∧ Below w.heap.size w V)) (by kernel_rfl) ?_ (fun hHeld => ?_)
  · exact ⟨hs.dr, hm.dr, hb.drew⟩
  replace hq := hq.dr
  replace hu := hu.dr
  generalize World.drew _ = V at hHeld hq hu ⊢
  refine wpAnyH_take (i := 0) (oi := ?oi14) (v := .agg s.cells) ?hi14 (by kernel_rfl) (by kernel_rfl) (by kernel_rfl) ?hQ14 ?hy14 (by assumption) ?rest14
  case hi14 => (simp only [List.getElem?_toArray, List.getElem?_cons_zero]; rfl)
  case hQ14 => exact fun _ _ _ h => h
  case hy14 => exact y_er w.heap.size s (fun V hV => hV.1) rfl rfl
  simp only [Act.put, List.setIfInBounds_toArray, List.set_cons_zero, List.set_cons_succ]
  refine wpAnyH_take (i := 2) (oi := ?oi15) (v := .agg (r.v N p)) ?hi15 (by kernel_rfl) (by kernel_rfl) (by kernel_rfl) ?hQ15 ?hy15 (by assumption) ?rest15
  case hi15 => (simp only [List.getElem?_toArray, List.getElem?_cons_zero, List.getElem?_cons_succ]; rfl)
  case hQ15 => exact fun _ _ _ h => h
  case hy15 => exact y_Rw (w.heap.size + 1) r N p (fun V hV => hV.2.1) rfl
  simp only [Act.put, List.setIfInBounds_toArray, List.set_cons_zero, List.set_cons_succ]
  refine wpAnyH_ready (rs := [1]) (by kernel_rfl) (by simp) ?_
  refine AllReadyH.cons (o := ?oi16) ?hi16 (fun K hK => ?_) AllReadyH.nil
  case hi16 => (simp only [List.getElem?_toArray, List.getElem?_cons_zero, List.getElem?_cons_succ]; rfl)
  go_simp
  (with_reducible refine (HFl.out _).mono ?_)
  rintro e V2 ⟨rfl, hbc⟩
  have hH2 := hide (And.intro (hHeld.1.bl hbc) (And.intro (hHeld.2.1.bl hbc) (below_bl rfl hHeld.2.2 hbc)))
  replace hq := hq.bl hbc
  replace hu := hu.bl hbc
  clear hHeld hbc
  go_simp
  refine hK.out _ _ ?_ (fun hHeld => ?_)
  · exact hH2.out
  clear hK K
  clear hH2
  refine wpAnyH_ready (rs := [3]) (by kernel_rfl) (by simp) ?_
  refine AllReadyH.cons (o := ?oi17) ?hi17 (fun K hK => ?_) AllReadyH.nil
  case hi17 => (simp only [List.getElem?_toArray, List.getElem?_cons_zero, List.getElem?_cons_succ]; rfl)
  rw [if_pos (by rfl)]
  (with_reducible refine s_er (w.heap.size + 1 + 1) _ (endE s 3) hq ?_ ?_ ?_)
  · exact rfl
  · exact rfl
  intro V3 hnew hoo
  have hH2 := hide (And.intro (hHeld.1.only hoo (by omega)) (And.intro (hHeld.2.1.only hoo (by omega)) (hoo.bel _ _ (by omega) hHeld.2.2)))
  replace hu := hu.only hoo (by omega)
  replace hq := hnew
  clear hHeld hnew hoo
  refine hK.out _ _ ?_ (fun hHeld => ?_)
  · exact hH2.out
  clear hK K
  clear hH2
  refine wpAnyH_ready (rs := [4]) (by kernel_rfl) (by simp) ?_
  refine AllReadyH.cons (o := ?oi18) ?hi18 (fun K hK => ?_) AllReadyH.nil
  case hi18 => (simp only [List.getElem?_toArray, List.getElem?_cons_zero, List.getElem?_cons_succ]; rfl)
  rw [if_pos (by rfl)]
  (with_reducible refine s_stR (w.heap.size + 1 + 1 + 1) _ r N p hu ?_ ?_ ?_ ?_)
  · exact rfl
  · exact rfl
  · exact rfl
  intro V4 hnew hoo
  have hH2 := hide (And.intro (hHeld.1.only hoo (by omega)) (And.intro (hHeld.2.1.only hoo (by omega)) (hoo.bel _ _ (by omega) hHeld.2.2)))
  replace hq := hq.only hoo (by omega)
  replace hu := hnew
  clear hHeld hnew hoo
  refine hK.out _ _ ?_ (fun hHeld => ?_)
  · exact hH2.out
  clear hK K
  clear hH2
  refine wpAnyH_done (by kernel_rfl) ?_ _
  go_wp2_with (fail)
  refine bodyPost_ret (results_two_rows Tryd.results19 _ _ (w.heap.size + 1 + 1) (w.heap.size + 1 + 1 + 1) _ _ _ _ _ _ rfl hq Tryd.underlying24 rfl size_er rfl hu Tryd.underlying46 rfl size_R) rfl ?_
  exact ⟨r, rfl, HRf.out.bl hHeld.2.2, fun x hx => .inl hx, hHeld.2.2⟩
set_option maxRecDepth 20000 in
set_option maxHeartbeats 4000000 in
theorem rt_far {w : World} (s : E) (ok : s.Ok) {N p : Nat} {f : Nat → Nat} {r : RP} (h : RefAt w N p f r) (hmay : mayE s = true) (h1 : s.cd = 1) (h2 : s.hv = false) (h3 : s.st < 64) (h4 : s.pl % 4 = 0) (h5 : inB p s.pl 16 = false) : Calls Tryd.prog 19 #[.agg s.cells, .agg (r.v N p)] w fun e w' => ∃ r' : RP, e = .returned (.tuple #[.agg (endE s 3).cells, .agg (r'.v N p)]) ∧ RefAt w' N p (f) r' ∧ (∀ x, r'.owns x → r.owns x ∨ w.heap.size ≤ x) ∧ Below w.heap.size w w' := by
  have HRf := hide h
  have hpf := h.few
  have hp1 : p ≤ 16384 := hpf.2.1
  have hNp := hide hpf.2.2
  clear h hpf
  have HC := hide (fun w => rcheck_any s w)
  rw [hmay, show chkE true = 0 from rfl] at HC
  have t1 : ((s.cd : Int) == 1) = true := (castq s.cd 1).trans (by simp [h1])
  have HFl : Hid (∀ W, Calls Tryd.prog 37 #[.agg s.cells] W fun e w' => e = .returned (.agg (endE s 3).cells) ∧ Below W.heap.size W w') := hide (fun W => rfail_any s W)
  have t2 : decide ((63 : Int) < (s.st : Int)) = false := by simp; omega
  have t2n : decide (63 < s.st) = false := by simp; omega
  have e4 : (s.pl : Int) % 4 = 0 := by omega
  have t4 : (s.pl : Int).tmod 4 = 0 := by rw [Int.tmod_eq_emod_of_nonneg (by omega)]; exact e4
  have HIn : Hid (∀ W, Calls Tryd.prog 36 #[.agg (r.v N p), .int .u32 (s.pl : Nat), .int .u32 16] W fun e w' => e = .returned (.bool false) ∧ Below W.heap.size W w') := hide (fun W => by have h := rin_any r N p s.pl 16 hNp.out hp1 ok.pl (by decide) W; rw [h5] at h; exact h)
  clear h1 h3 h4 h5
  go_enter Tryd.func19, Tryd.ntmps19
  go_wp2_with (first | ((with_reducible refine bx_er w.heap.size s ?_ ?_ ?_); exact rfl; exact rfl; intro W hs hb hz) | ((with_reducible refine bx_R (w.heap.size + 1) r N p ?_ ?_ ?_); exact hz.out; exact rfl; intro W hm hb' hz'; replace hs := hs.bl (hz.out ▸ hb'); replace hb := hb.trans (hb'.mono (by omega)); replace hz := hz'; clear hb' hz') | ((with_reducible refine al_er (w.heap.size + 1 + 1) ?_ ?_); exact hz.out; intro W hq hb' hz'; replace hs := hs.bl (hz.out ▸ hb'); replace hm := hm.bl (hz.out ▸ hb'); replace hb := hb.trans (hb'.mono (by omega)); replace hz := hz'; clear hb' hz') | ((with_reducible refine al_Rz (w.heap.size + 1 + 1 + 1) ?_ ?_); exact hz.out; intro W hu hb' hz'; replace hs := hs.bl (hz.out ▸ hb'); replace hm := hm.bl (hz.out ▸ hb'); replace hq := hq.bl (hz.out ▸ hb'); replace hb := hb.trans (hb'.mono (by omega)); have hS4 : w.heap.size + 4 ≤ W.heap.size := (by have := hz'.out; omega); have fx := hs.cell; clear hb' hz' hz) | ((with_reducible refine ld_er w.heap.size _ hs ?_ ?_ ?_); exact rfl; exact rfl) | (go_at_call 15; (with_reducible refine (HC.out _).mono ?_); rintro e W ⟨rfl, hbc⟩; replace hs := hs.bl hbc; replace hm := hm.bl hbc; replace hq := hq.bl hbc; replace hu := hu.bl hbc; replace hS4 := Nat.le_trans hS4 hbc.size; replace fx := hs.cell; replace hb := below_bl rfl hb hbc; clear hbc) | ((with_reducible refine ld_Rw (w.heap.size + 1) _ N p hm ?_ ?_ ?_); exact rfl; exact rfl) | (go_at_call 36; (with_reducible refine (HIn.out _).mono ?_); rintro e W ⟨rfl, hbc⟩; replace hs := hs.bl hbc; replace hm := hm.bl hbc; replace hq := hq.bl hbc; replace hu := hu.bl hbc; replace hS4 := Nat.le_trans hS4 hbc.size; replace fx := hs.cell; replace hb := below_bl rfl hb hbc; clear hbc))
  refine wp_region_held_drew (S := (fun V => RowAt V w.heap.size s.cells 24 ∧ RowAt V (w.heap.size + 1) (r.v N p) 46 ∧ Below w.heap.size w V)) (by kernel_rfl) ?_ (fun hHeld => ?_)
  · exact ⟨hs.dr, hm.dr, hb.drew⟩
  replace hq := hq.dr
  replace hu := hu.dr
  generalize World.drew _ = V at hHeld hq hu ⊢
  refine wpAnyH_take (i := 0) (oi := ?oi19) (v := .agg s.cells) ?hi19 (by kernel_rfl) (by kernel_rfl) (by kernel_rfl) ?hQ19 ?hy19 (by assumption) ?rest19
  case hi19 => (simp only [List.getElem?_toArray, List.getElem?_cons_zero]; rfl)
  case hQ19 => exact fun _ _ _ h => h
  case hy19 => exact y_er w.heap.size s (fun V hV => hV.1) rfl rfl
  simp only [Act.put, List.setIfInBounds_toArray, List.set_cons_zero, List.set_cons_succ]
  refine wpAnyH_take (i := 2) (oi := ?oi20) (v := .agg (r.v N p)) ?hi20 (by kernel_rfl) (by kernel_rfl) (by kernel_rfl) ?hQ20 ?hy20 (by assumption) ?rest20
  case hi20 => (simp only [List.getElem?_toArray, List.getElem?_cons_zero, List.getElem?_cons_succ]; rfl)
  case hQ20 => exact fun _ _ _ h => h
  case hy20 => exact y_Rw (w.heap.size + 1) r N p (fun V hV => hV.2.1) rfl
  simp only [Act.put, List.setIfInBounds_toArray, List.set_cons_zero, List.set_cons_succ]
  refine wpAnyH_ready (rs := [1]) (by kernel_rfl) (by simp) ?_
  refine AllReadyH.cons (o := ?oi21) ?hi21 (fun K hK => ?_) AllReadyH.nil
  case hi21 => (simp only [List.getElem?_toArray, List.getElem?_cons_zero, List.getElem?_cons_succ]; rfl)
  go_simp
  (with_reducible refine (HFl.out _).mono ?_)
  rintro e V2 ⟨rfl, hbc⟩
  have hH2 := hide (And.intro (hHeld.1.bl hbc) (And.intro (hHeld.2.1.bl hbc) (below_bl rfl hHeld.2.2 hbc)))
  replace hq := hq.bl hbc
  replace hu := hu.bl hbc
  clear hHeld hbc
  go_simp
  refine hK.out _ _ ?_ (fun hHeld => ?_)
  · exact hH2.out
  clear hK K
  clear hH2
  refine wpAnyH_ready (rs := [3]) (by kernel_rfl) (by simp) ?_
  refine AllReadyH.cons (o := ?oi22) ?hi22 (fun K hK => ?_) AllReadyH.nil
  case hi22 => (simp only [List.getElem?_toArray, List.getElem?_cons_zero, List.getElem?_cons_succ]; rfl)
  rw [if_pos (by rfl)]
  (with_reducible refine s_er (w.heap.size + 1 + 1) _ (endE s 3) hq ?_ ?_ ?_)
  · exact rfl
  · exact rfl
  intro V3 hnew hoo
  have hH2 := hide (And.intro (hHeld.1.only hoo (by omega)) (And.intro (hHeld.2.1.only hoo (by omega)) (hoo.bel _ _ (by omega) hHeld.2.2)))
  replace hu := hu.only hoo (by omega)
  replace hq := hnew
  clear hHeld hnew hoo
  refine hK.out _ _ ?_ (fun hHeld => ?_)
  · exact hH2.out
  clear hK K
  clear hH2
  refine wpAnyH_ready (rs := [4]) (by kernel_rfl) (by simp) ?_
  refine AllReadyH.cons (o := ?oi23) ?hi23 (fun K hK => ?_) AllReadyH.nil
  case hi23 => (simp only [List.getElem?_toArray, List.getElem?_cons_zero, List.getElem?_cons_succ]; rfl)
  rw [if_pos (by rfl)]
  (with_reducible refine s_stR (w.heap.size + 1 + 1 + 1) _ r N p hu ?_ ?_ ?_ ?_)
  · exact rfl
  · exact rfl
  · exact rfl
  intro V4 hnew hoo
  have hH2 := hide (And.intro (hHeld.1.only hoo (by omega)) (And.intro (hHeld.2.1.only hoo (by omega)) (hoo.bel _ _ (by omega) hHeld.2.2)))
  replace hq := hq.only hoo (by omega)
  replace hu := hnew
  clear hHeld hnew hoo
  refine hK.out _ _ ?_ (fun hHeld => ?_)
  · exact hH2.out
  clear hK K
  clear hH2
  refine wpAnyH_done (by kernel_rfl) ?_ _
  go_wp2_with (fail)
  refine bodyPost_ret (results_two_rows Tryd.results19 _ _ (w.heap.size + 1 + 1) (w.heap.size + 1 + 1 + 1) _ _ _ _ _ _ rfl hq Tryd.underlying24 rfl size_er rfl hu Tryd.underlying46 rfl size_R) rfl ?_
  exact ⟨r, rfl, HRf.out.bl hHeld.2.2, fun x hx => .inl hx, hHeld.2.2⟩
end Go.Proofs.YtalcgipcephnnaaDoor
namespace Go.Proofs.YtalcgipcephnnaaDoor
open Go.RowKit
set_option linter.unusedVariables false
set_option linter.unusedSimpArgs false

attribute [local go_sem] E.at0 E.at1 E.at2 E.at3 E.at4 E.at5 E.at6 E.at7 E.at8 E.at9 E.at10
set_option maxRecDepth 20000 in
set_option maxHeartbeats 4000000 in
theorem rt_words {w : World} (s : E) (ok : s.Ok) {N p : Nat} {f : Nat → Nat} {r : RP} (h : RefAt w N p f r) (hmay : mayE s = true) (h1 : s.cd = 1) (h2 : s.hv = false) (h3 : s.st < 64) (h4 : s.pl % 4 = 0) (h5 : inB p s.pl 16 = true) (h6 : wordsF f (s.pl - 2147483648) 2 = 0 ∨ 65536 < wordsF f (s.pl - 2147483648) 2) : Calls Tryd.prog 19 #[.agg s.cells, .agg (r.v N p)] w fun e w' => ∃ r' : RP, e = .returned (.tuple #[.agg (endE ({ s with st := s.st + 1 } : E) 3).cells, .agg (r'.v N p)]) ∧ RefAt w' N p (f) r' ∧ (∀ x, r'.owns x → r.owns x ∨ w.heap.size ≤ x) ∧ Below w.heap.size w w' := by
  have HRf := hide h
  have hpf := h.few
  have hp1 : p ≤ 16384 := hpf.2.1
  have hNp := hide hpf.2.2
  clear h hpf
  have HC := hide (fun w => rcheck_any s w)
  rw [hmay, show chkE true = 0 from rfl] at HC
  have t1 : ((s.cd : Int) == 1) = true := (castq s.cd 1).trans (by simp [h1])
  have t2 : decide ((63 : Int) < (s.st : Int)) = false := by simp; omega
  have t2n : decide (63 < s.st) = false := by simp; omega
  have e4 : (s.pl : Int) % 4 = 0 := by omega
  have t4 : (s.pl : Int).tmod 4 = 0 := by rw [Int.tmod_eq_emod_of_nonneg (by omega)]; exact e4
  have HIn : Hid (∀ W, Calls Tryd.prog 36 #[.agg (r.v N p), .int .u32 (s.pl : Nat), .int .u32 16] W fun e w' => e = .returned (.bool true) ∧ Below W.heap.size W w') := hide (fun W => by have h := rin_any r N p s.pl 16 hNp.out hp1 ok.pl (by decide) W; rw [h5] at h; exact h)
  obtain ⟨hin1, hin2⟩ := inM_of h5
  have hx1 : 2147483648 ≤ s.pl := (of_decide_eq_true h5).1
  obtain ⟨av, hav⟩ : ∃ a, s.pl - 2147483648 = a := ⟨_, rfl⟩
  have hav0 : (s.pl : Int) - 2147483648 = (av : Int) := by omega
  have hav9 : av + 16 ≤ N := by rw [hNp.out]; omega
  have hav4 : av % 4 = 0 := by omega
  have havl : av ≤ 67108864 := by have := hNp.out; omega
  have hpl := ok.pl
  rw [hav] at h6
  clear hin1 hin2 hx1 hav h1 h4 h5
  obtain ⟨g, hg⟩ : ∃ g, wordsF f av = g := ⟨_, rfl⟩
  rw [hg] at h6
  obtain ⟨sf, hsf⟩ : ∃ x : E, ({ s with st := s.st + 1 } : E) = x := ⟨_, rfl⟩
  rw [hsf]
  have HG0 := hide hg
  have HSF := hide hsf
  clear hg hsf
  go_enter Tryd.func19, Tryd.ntmps19
  go_wp2_with (first | ((with_reducible refine bx_er w.heap.size s ?_ ?_ ?_); exact rfl; exact rfl; intro W hs hb hz) | ((with_reducible refine bx_R (w.heap.size + 1) r N p ?_ ?_ ?_); exact hz.out; exact rfl; intro W hm hb' hz'; replace hs := hs.bl (hz.out ▸ hb'); replace hb := hb.trans (hb'.mono (by omega)); replace hz := hz'; clear hb' hz') | ((with_reducible refine al_er (w.heap.size + 1 + 1) ?_ ?_); exact hz.out; intro W hq hb' hz'; replace hs := hs.bl (hz.out ▸ hb'); replace hm := hm.bl (hz.out ▸ hb'); replace hb := hb.trans (hb'.mono (by omega)); replace hz := hz'; clear hb' hz') | ((with_reducible refine al_Rz (w.heap.size + 1 + 1 + 1) ?_ ?_); exact hz.out; intro W hu hb' hz'; replace hs := hs.bl (hz.out ▸ hb'); replace hm := hm.bl (hz.out ▸ hb'); replace hq := hq.bl (hz.out ▸ hb'); replace hb := hb.trans (hb'.mono (by omega)); have hS4 : w.heap.size + 4 ≤ W.heap.size := (by have := hz'.out; omega); have fx := hs.cell; clear hb' hz' hz) | ((with_reducible refine ld_er w.heap.size _ hs ?_ ?_ ?_); exact rfl; exact rfl) | (go_at_call 15; (with_reducible refine (HC.out _).mono ?_); rintro e W ⟨rfl, hbc⟩; replace hs := hs.bl hbc; replace hm := hm.bl hbc; replace hq := hq.bl hbc; replace hu := hu.bl hbc; replace hS4 := Nat.le_trans hS4 hbc.size; replace fx := hs.cell; replace hb := below_bl rfl hb hbc; clear hbc) | ((with_reducible refine ld_Rw (w.heap.size + 1) _ N p hm ?_ ?_ ?_); exact rfl; exact rfl) | (go_at_call 36; (with_reducible refine (HIn.out _).mono ?_); rintro e W9 ⟨rfl, hbc⟩; replace hs := hs.bl hbc; replace hm := hm.bl hbc; replace hq := hq.bl hbc; replace hu := hu.bl hbc; replace hS4 := Nat.le_trans hS4 hbc.size; replace fx := hs.cell; replace hb := below_bl rfl hb hbc; clear hbc; obtain ⟨NA, hNA0⟩ : ∃ n, W9.heap.size = n := ⟨_, rfl⟩; have hNA := hide hNA0; have hNA4 : w.heap.size + 4 ≤ NA := hNA0 ▸ hS4; clear hNA0) | ((with_reducible refine al_a4 NA ?_ ?_); exact hNA.out; intro W ho hb' hz2; have hbc : Below W9.heap.size W9 W := (by rw [hNA.out]; exact hb'); replace hs := hs.bl hbc; replace hm := hm.bl hbc; replace hq := hq.bl hbc; replace hu := hu.bl hbc; replace hS4 := Nat.le_trans hS4 hbc.size; replace fx := hs.cell; replace hb := hb.trans (hb'.mono (by omega)); clear hb' hz2 hbc))
  go_loopw [7] (fun iv wr => ∃ (k : Nat), k ≤ 4 ∧ iv = .int .i64 (k : Nat) ∧ RowAt wr NA (ordV (untilF f av k)) 80 ∧ RowAt wr w.heap.size s.cells 24 ∧ RowAt wr (w.heap.size + 1) (r.v N p) 46 ∧ RowAt wr (w.heap.size + 1 + 1) zeroE.cells 24 ∧ RowAt wr (w.heap.size + 1 + 1 + 1) zR 46 ∧ Below w.heap.size w wr) (fun iv _ => 4 - (intOf iv).toNat)
  case atStart => exact ⟨0, Nat.zero_le _, rfl, (until_none f av) ▸ ho, hs, hm, hq, hu, hb⟩
  case round =>
    clear ho hs hm hq hu hb fx hS4 hNA
    obtain ⟨k, hk, rfl, ho, hs, hm, hq, hu, hb⟩ := hrel
    have fx := hs.cell
    by_cases hlt : k < 4
    · have hk4 : k < 4 := hlt
      have HG : Hid (∀ W (z : Int), RefAt W N p f r → z = ((av + 4 * k : Nat) : Int) → Calls Tryd.prog 38 #[.slice (some ⟨r.gB, 0, none⟩) N r.cB, .int .i64 z, .int .i64 4] W fun e w' => e = .returned (.tuple #[.int .u32 (wordsF f av k : Nat), .int .i64 0]) ∧ w' = W) := hide (fun W z hR hz => by
        rw [hz]
        have hc := hR.capB
        have h := rget_wide r.gB N r.cB (fun j => UInt8.ofNat (f j)) (av + 4 * k) 4 (by decide) (by omega) (by omega) hc.1 hc.2 (by have := hR.few; omega) W (fun j hj => by
          have hs := hR.small j
          rw [hR.bytes.cell hj, show (UInt8.ofNat (f j)).toNat = f j by simp; omega])
        rw [ref_numF f hR.small] at h
        exact h)
      go_wp2_with (first | ((with_reducible refine ld_B (w.heap.size + 1) r N p hm ?_ ?_); exact rfl) | (go_at_call 38; (with_reducible refine (HG.out _ _ (HRf.out.bl hb) ?_).mono ?_); (first | omega | (simp; omega)); rintro e W2 ⟨rfl, rfl⟩) | ((with_reducible refine st_a4 NA k _ (wordsF f av k) hk4 ho ?_ ?_ ?_); exact rfl; exact rfl; intro W hnew hoo; replace hs := hs.only hoo (by omega); replace hm := hm.only hoo (by omega); replace hq := hq.only hoo (by omega); replace hu := hu.only hoo (by omega); replace fx := hs.cell; replace hb := hoo.bel _ _ (by omega) hb; replace ho := (until_step f av k hk4) ▸ hnew; clear hnew hoo))
      go_roundw
      case rel => exact ⟨k + 1, hlt, by go_num, ho, hs, hm, hq, hu, hb⟩
      case measure => show 4 - (((k : Int) + 1)).toNat < 4 - ((k : Int)).toNat; omega
    · obtain rfl : k = 4 := by omega
      replace ho := (until_four f av) ▸ ho
      rw [HG0.out] at ho
      have fo2 : ∀ V, RowAt V NA (ordV g) 80 → V.cell? ⟨NA, 2, none⟩ = some (.int .u32 (g 2 : Nat)) := fun V h => h.cell 2
      obtain ⟨g2, hg2⟩ : ∃ x, g 2 = x := ⟨_, rfl⟩
      rw [hg2] at h6
      simp only [hg2] at fo2
      rcases h6 with h6 | h6
      · have u1 : ((g2 : Int) == 0) = true := (castq g2 0).trans (by simp [h6])
        have HFl : Hid (∀ W, Calls Tryd.prog 37 #[.agg sf.cells] W fun e w' => e = .returned (.agg (endE sf 3).cells) ∧ Below W.heap.size W w') := hide (fun W => rfail_any sf W)
        go_wp2_with (first | ((with_reducible refine ld_est w.heap.size _ _ hs ?_ ?_); exact rfl) | ((with_reducible refine st_est w.heap.size _ (s.st + 1) _ hs ?_ ?_ ?_); exact rfl; exact rfl; intro W hnew hoo; replace hm := hm.only hoo (by omega); replace hq := hq.only hoo (by omega); replace hu := hu.only hoo (by omega); replace ho := ho.only hoo (by omega); replace hb := hoo.bel _ _ (by omega) hb; replace hs := hnew; have fo := fo2 _ ho; clear hnew hoo fx))
        rw [HSF.out] at hs
        refine wp_region_held_drew (S := (fun V => RowAt V w.heap.size sf.cells 24 ∧ RowAt V (w.heap.size + 1) (r.v N p) 46 ∧ Below w.heap.size w V)) (by kernel_rfl) ?_ (fun hHeld => ?_)
        · exact ⟨hs.dr, hm.dr, hb.drew⟩
        replace hq := hq.dr
        replace hu := hu.dr
        generalize World.drew _ = V at hHeld hq hu ⊢
        refine wpAnyH_take (i := 0) (oi := ?oi24) (v := .agg sf.cells) ?hi24 (by kernel_rfl) (by kernel_rfl) (by kernel_rfl) ?hQ24 ?hy24 (by assumption) ?rest24
        case hi24 => (simp only [List.getElem?_toArray, List.getElem?_cons_zero]; rfl)
        case hQ24 => exact fun _ _ _ h => h
        case hy24 => exact y_er w.heap.size sf (fun V hV => hV.1) rfl rfl
        simp only [Act.put, List.setIfInBounds_toArray, List.set_cons_zero, List.set_cons_succ]
        refine wpAnyH_take (i := 2) (oi := ?oi25) (v := .agg (r.v N p)) ?hi25 (by kernel_rfl) (by kernel_rfl) (by kernel_rfl) ?hQ25 ?hy25 (by assumption) ?rest25
        case hi25 => (simp only [List.getElem?_toArray, List.getElem?_cons_zero, List.getElem?_cons_succ]; rfl)
        case hQ25 => exact fun _ _ _ h => h
        case hy25 => exact y_Rw (w.heap.size + 1) r N p (fun V hV => hV.2.1) rfl
        simp only [Act.put, List.setIfInBounds_toArray, List.set_cons_zero, List.set_cons_succ]
        refine wpAnyH_ready (rs := [1]) (by kernel_rfl) (by simp) ?_
        refine AllReadyH.cons (o := ?oi26) ?hi26 (fun K hK => ?_) AllReadyH.nil
        case hi26 => (simp only [List.getElem?_toArray, List.getElem?_cons_zero, List.getElem?_cons_succ]; rfl)
        go_simp
        (with_reducible refine (HFl.out _).mono ?_)
        rintro e V2 ⟨rfl, hbc⟩
        have hH2 := hide (And.intro (hHeld.1.bl hbc) (And.intro (hHeld.2.1.bl hbc) (below_bl rfl hHeld.2.2 hbc)))
        replace hq := hq.bl hbc
        replace hu := hu.bl hbc
        clear hHeld hbc
        go_simp
        refine hK.out _ _ ?_ (fun hHeld => ?_)
        · exact hH2.out
        clear hK K
        clear hH2
        refine wpAnyH_ready (rs := [3]) (by kernel_rfl) (by simp) ?_
        refine AllReadyH.cons (o := ?oi27) ?hi27 (fun K hK => ?_) AllReadyH.nil
        case hi27 => (simp only [List.getElem?_toArray, List.getElem?_cons_zero, List.getElem?_cons_succ]; rfl)
        rw [if_pos (by rfl)]
        (with_reducible refine s_er (w.heap.size + 1 + 1) _ (endE sf 3) hq ?_ ?_ ?_)
        · exact rfl
        · exact rfl
        intro V3 hnew hoo
        have hH2 := hide (And.intro (hHeld.1.only hoo (by omega)) (And.intro (hHeld.2.1.only hoo (by omega)) (hoo.bel _ _ (by omega) hHeld.2.2)))
        replace hu := hu.only hoo (by omega)
        replace hq := hnew
        clear hHeld hnew hoo
        refine hK.out _ _ ?_ (fun hHeld => ?_)
        · exact hH2.out
        clear hK K
        clear hH2
        refine wpAnyH_ready (rs := [4]) (by kernel_rfl) (by simp) ?_
        refine AllReadyH.cons (o := ?oi28) ?hi28 (fun K hK => ?_) AllReadyH.nil
        case hi28 => (simp only [List.getElem?_toArray, List.getElem?_cons_zero, List.getElem?_cons_succ]; rfl)
        rw [if_pos (by rfl)]
        (with_reducible refine s_stR (w.heap.size + 1 + 1 + 1) _ r N p hu ?_ ?_ ?_ ?_)
        · exact rfl
        · exact rfl
        · exact rfl
        intro V4 hnew hoo
        have hH2 := hide (And.intro (hHeld.1.only hoo (by omega)) (And.intro (hHeld.2.1.only hoo (by omega)) (hoo.bel _ _ (by omega) hHeld.2.2)))
        replace hq := hq.only hoo (by omega)
        replace hu := hnew
        clear hHeld hnew hoo
        refine hK.out _ _ ?_ (fun hHeld => ?_)
        · exact hH2.out
        clear hK K
        clear hH2
        refine wpAnyH_done (by kernel_rfl) ?_ _
        go_wp2_with (fail)
        refine bodyPost_ret (results_two_rows Tryd.results19 _ _ (w.heap.size + 1 + 1) (w.heap.size + 1 + 1 + 1) _ _ _ _ _ _ rfl hq Tryd.underlying24 rfl size_er rfl hu Tryd.underlying46 rfl size_R) rfl ?_
        exact ⟨r, rfl, HRf.out.bl hHeld.2.2, fun x hx => .inl hx, hHeld.2.2⟩
      · have u1 : ((g2 : Int) == 0) = false := (castq g2 0).trans (by simp; omega)
        have u2 : (65536 : Int) < (g2 : Int) := by omega
        have HFl : Hid (∀ W, Calls Tryd.prog 37 #[.agg sf.cells] W fun e w' => e = .returned (.agg (endE sf 3).cells) ∧ Below W.heap.size W w') := hide (fun W => rfail_any sf W)
        go_wp2_with (first | ((with_reducible refine ld_est w.heap.size _ _ hs ?_ ?_); exact rfl) | ((with_reducible refine st_est w.heap.size _ (s.st + 1) _ hs ?_ ?_ ?_); exact rfl; exact rfl; intro W hnew hoo; replace hm := hm.only hoo (by omega); replace hq := hq.only hoo (by omega); replace hu := hu.only hoo (by omega); replace ho := ho.only hoo (by omega); replace hb := hoo.bel _ _ (by omega) hb; replace hs := hnew; have fo := fo2 _ ho; clear hnew hoo fx))
        rw [HSF.out] at hs
        refine wp_region_held_drew (S := (fun V => RowAt V w.heap.size sf.cells 24 ∧ RowAt V (w.heap.size + 1) (r.v N p) 46 ∧ Below w.heap.size w V)) (by kernel_rfl) ?_ (fun hHeld => ?_)
        · exact ⟨hs.dr, hm.dr, hb.drew⟩
        replace hq := hq.dr
        replace hu := hu.dr
        generalize World.drew _ = V at hHeld hq hu ⊢
        refine wpAnyH_take (i := 0) (oi := ?oi29) (v := .agg sf.cells) ?hi29 (by kernel_rfl) (by kernel_rfl) (by kernel_rfl) ?hQ29 ?hy29 (by assumption) ?rest29
        case hi29 => (simp only [List.getElem?_toArray, List.getElem?_cons_zero]; rfl)
        case hQ29 => exact fun _ _ _ h => h
        case hy29 => exact y_er w.heap.size sf (fun V hV => hV.1) rfl rfl
        simp only [Act.put, List.setIfInBounds_toArray, List.set_cons_zero, List.set_cons_succ]
        refine wpAnyH_take (i := 2) (oi := ?oi30) (v := .agg (r.v N p)) ?hi30 (by kernel_rfl) (by kernel_rfl) (by kernel_rfl) ?hQ30 ?hy30 (by assumption) ?rest30
        case hi30 => (simp only [List.getElem?_toArray, List.getElem?_cons_zero, List.getElem?_cons_succ]; rfl)
        case hQ30 => exact fun _ _ _ h => h
        case hy30 => exact y_Rw (w.heap.size + 1) r N p (fun V hV => hV.2.1) rfl
        simp only [Act.put, List.setIfInBounds_toArray, List.set_cons_zero, List.set_cons_succ]
        refine wpAnyH_ready (rs := [1]) (by kernel_rfl) (by simp) ?_
        refine AllReadyH.cons (o := ?oi31) ?hi31 (fun K hK => ?_) AllReadyH.nil
        case hi31 => (simp only [List.getElem?_toArray, List.getElem?_cons_zero, List.getElem?_cons_succ]; rfl)
        go_simp
        (with_reducible refine (HFl.out _).mono ?_)
        rintro e V2 ⟨rfl, hbc⟩
        have hH2 := hide (And.intro (hHeld.1.bl hbc) (And.intro (hHeld.2.1.bl hbc) (below_bl rfl hHeld.2.2 hbc)))
        replace hq := hq.bl hbc
        replace hu := hu.bl hbc
        clear hHeld hbc
        go_simp
        refine hK.out _ _ ?_ (fun hHeld => ?_)
        · exact hH2.out
        clear hK K
        clear hH2
        refine wpAnyH_ready (rs := [3]) (by kernel_rfl) (by simp) ?_
        refine AllReadyH.cons (o := ?oi32) ?hi32 (fun K hK => ?_) AllReadyH.nil
        case hi32 => (simp only [List.getElem?_toArray, List.getElem?_cons_zero, List.getElem?_cons_succ]; rfl)
        rw [if_pos (by rfl)]
        (with_reducible refine s_er (w.heap.size + 1 + 1) _ (endE sf 3) hq ?_ ?_ ?_)
        · exact rfl
        · exact rfl
        intro V3 hnew hoo
        have hH2 := hide (And.intro (hHeld.1.only hoo (by omega)) (And.intro (hHeld.2.1.only hoo (by omega)) (hoo.bel _ _ (by omega) hHeld.2.2)))
        replace hu := hu.only hoo (by omega)
        replace hq := hnew
        clear hHeld hnew hoo
        refine hK.out _ _ ?_ (fun hHeld => ?_)
        · exact hH2.out
        clear hK K
        clear hH2
        refine wpAnyH_ready (rs := [4]) (by kernel_rfl) (by simp) ?_
        refine AllReadyH.cons (o := ?oi33) ?hi33 (fun K hK => ?_) AllReadyH.nil
        case hi33 => (simp only [List.getElem?_toArray, List.getElem?_cons_zero, List.getElem?_cons_succ]; rfl)
        rw [if_pos (by rfl)]
        (with_reducible refine s_stR (w.heap.size + 1 + 1 + 1) _ r N p hu ?_ ?_ ?_ ?_)
        · exact rfl
        · exact rfl
        · exact rfl
        intro V4 hnew hoo
        have hH2 := hide (And.intro (hHeld.1.only hoo (by omega)) (And.intro (hHeld.2.1.only hoo (by omega)) (hoo.bel _ _ (by omega) hHeld.2.2)))
        replace hq := hq.only hoo (by omega)
        replace hu := hnew
        clear hHeld hnew hoo
        refine hK.out _ _ ?_ (fun hHeld => ?_)
        · exact hH2.out
        clear hK K
        clear hH2
        refine wpAnyH_done (by kernel_rfl) ?_ _
        go_wp2_with (fail)
        refine bodyPost_ret (results_two_rows Tryd.results19 _ _ (w.heap.size + 1 + 1) (w.heap.size + 1 + 1 + 1) _ _ _ _ _ _ rfl hq Tryd.underlying24 rfl size_er rfl hu Tryd.underlying46 rfl size_R) rfl ?_
        exact ⟨r, rfl, HRf.out.bl hHeld.2.2, fun x hx => .inl hx, hHeld.2.2⟩
set_option maxRecDepth 20000 in
set_option maxHeartbeats 4000000 in
theorem rt_take {w : World} (s : E) (ok : s.Ok) {N p : Nat} {f : Nat → Nat} {r : RP} (h : RefAt w N p f r) (hmay : mayE s = true) (h1 : s.cd = 1) (h2 : s.hv = false) (h3 : s.st < 64) (h4 : s.pl % 4 = 0) (h5 : inB p s.pl 16 = true) (h6 : ¬ (wordsF f (s.pl - 2147483648) 2 = 0 ∨ 65536 < wordsF f (s.pl - 2147483648) 2)) : Calls Tryd.prog 19 #[.agg s.cells, .agg (r.v N p)] w fun e w' => ∃ r' : RP, e = .returned (.tuple #[.agg (({ s with st := s.st + 1, hv := true, fr := wordsF f (s.pl - 2147483648) 0, tt := wordsF f (s.pl - 2147483648) 1, lf := wordsF f (s.pl - 2147483648) 2, nx := wordsF f (s.pl - 2147483648) 3 } : E)).cells, .agg (r'.v N p)]) ∧ RefAt w' N p (f) r' ∧ (∀ x, r'.owns x → r.owns x ∨ w.heap.size ≤ x) ∧ Below w.heap.size w w' := by
  have HRf := hide h
  have hpf := h.few
  have hp1 : p ≤ 16384 := hpf.2.1
  have hNp := hide hpf.2.2
  clear h hpf
  have HC := hide (fun w => rcheck_any s w)
  rw [hmay, show chkE true = 0 from rfl] at HC
  have t1 : ((s.cd : Int) == 1) = true := (castq s.cd 1).trans (by simp [h1])
  have t2 : decide ((63 : Int) < (s.st : Int)) = false := by simp; omega
  have t2n : decide (63 < s.st) = false := by simp; omega
  have e4 : (s.pl : Int) % 4 = 0 := by omega
  have t4 : (s.pl : Int).tmod 4 = 0 := by rw [Int.tmod_eq_emod_of_nonneg (by omega)]; exact e4
  have HIn : Hid (∀ W, Calls Tryd.prog 36 #[.agg (r.v N p), .int .u32 (s.pl : Nat), .int .u32 16] W fun e w' => e = .returned (.bool true) ∧ Below W.heap.size W w') := hide (fun W => by have h := rin_any r N p s.pl 16 hNp.out hp1 ok.pl (by decide) W; rw [h5] at h; exact h)
  obtain ⟨hin1, hin2⟩ := inM_of h5
  have hx1 : 2147483648 ≤ s.pl := (of_decide_eq_true h5).1
  obtain ⟨av, hav⟩ : ∃ a, s.pl - 2147483648 = a := ⟨_, rfl⟩
  have hav0 : (s.pl : Int) - 2147483648 = (av : Int) := by omega
  have hav9 : av + 16 ≤ N := by rw [hNp.out]; omega
  have hav4 : av % 4 = 0 := by omega
  have havl : av ≤ 67108864 := by have := hNp.out; omega
  have hpl := ok.pl
  rw [hav] at h6 ⊢
  clear hin1 hin2 hx1 hav h1 h4 h5
  obtain ⟨g, hg⟩ : ∃ g, wordsF f av = g := ⟨_, rfl⟩
  rw [hg] at h6 ⊢
  obtain ⟨sf, hsf⟩ : ∃ x : E, ({ s with st := s.st + 1, hv := true, fr := g 0, tt := g 1, lf := g 2, nx := g 3 } : E) = x := ⟨_, rfl⟩
  rw [hsf]
  have HG0 := hide hg
  have HSF := hide hsf
  clear hg hsf
  go_enter Tryd.func19, Tryd.ntmps19
  go_wp2_with (first | ((with_reducible refine bx_er w.heap.size s ?_ ?_ ?_); exact rfl; exact rfl; intro W hs hb hz) | ((with_reducible refine bx_R (w.heap.size + 1) r N p ?_ ?_ ?_); exact hz.out; exact rfl; intro W hm hb' hz'; replace hs := hs.bl (hz.out ▸ hb'); replace hb := hb.trans (hb'.mono (by omega)); replace hz := hz'; clear hb' hz') | ((with_reducible refine al_er (w.heap.size + 1 + 1) ?_ ?_); exact hz.out; intro W hq hb' hz'; replace hs := hs.bl (hz.out ▸ hb'); replace hm := hm.bl (hz.out ▸ hb'); replace hb := hb.trans (hb'.mono (by omega)); replace hz := hz'; clear hb' hz') | ((with_reducible refine al_Rz (w.heap.size + 1 + 1 + 1) ?_ ?_); exact hz.out; intro W hu hb' hz'; replace hs := hs.bl (hz.out ▸ hb'); replace hm := hm.bl (hz.out ▸ hb'); replace hq := hq.bl (hz.out ▸ hb'); replace hb := hb.trans (hb'.mono (by omega)); have hS4 : w.heap.size + 4 ≤ W.heap.size := (by have := hz'.out; omega); have fx := hs.cell; clear hb' hz' hz) | ((with_reducible refine ld_er w.heap.size _ hs ?_ ?_ ?_); exact rfl; exact rfl) | (go_at_call 15; (with_reducible refine (HC.out _).mono ?_); rintro e W ⟨rfl, hbc⟩; replace hs := hs.bl hbc; replace hm := hm.bl hbc; replace hq := hq.bl hbc; replace hu := hu.bl hbc; replace hS4 := Nat.le_trans hS4 hbc.size; replace fx := hs.cell; replace hb := below_bl rfl hb hbc; clear hbc) | ((with_reducible refine ld_Rw (w.heap.size + 1) _ N p hm ?_ ?_ ?_); exact rfl; exact rfl) | (go_at_call 36; (with_reducible refine (HIn.out _).mono ?_); rintro e W9 ⟨rfl, hbc⟩; replace hs := hs.bl hbc; replace hm := hm.bl hbc; replace hq := hq.bl hbc; replace hu := hu.bl hbc; replace hS4 := Nat.le_trans hS4 hbc.size; replace fx := hs.cell; replace hb := below_bl rfl hb hbc; clear hbc; obtain ⟨NA, hNA0⟩ : ∃ n, W9.heap.size = n := ⟨_, rfl⟩; have hNA := hide hNA0; have hNA4 : w.heap.size + 4 ≤ NA := hNA0 ▸ hS4; clear hNA0) | ((with_reducible refine al_a4 NA ?_ ?_); exact hNA.out; intro W ho hb' hz2; have hbc : Below W9.heap.size W9 W := (by rw [hNA.out]; exact hb'); replace hs := hs.bl hbc; replace hm := hm.bl hbc; replace hq := hq.bl hbc; replace hu := hu.bl hbc; replace hS4 := Nat.le_trans hS4 hbc.size; replace fx := hs.cell; replace hb := hb.trans (hb'.mono (by omega)); clear hb' hz2 hbc))
  go_loopw [7] (fun iv wr => ∃ (k : Nat), k ≤ 4 ∧ iv = .int .i64 (k : Nat) ∧ RowAt wr NA (ordV (untilF f av k)) 80 ∧ RowAt wr w.heap.size s.cells 24 ∧ RowAt wr (w.heap.size + 1) (r.v N p) 46 ∧ RowAt wr (w.heap.size + 1 + 1) zeroE.cells 24 ∧ RowAt wr (w.heap.size + 1 + 1 + 1) zR 46 ∧ Below w.heap.size w wr) (fun iv _ => 4 - (intOf iv).toNat)
  case atStart => exact ⟨0, Nat.zero_le _, rfl, (until_none f av) ▸ ho, hs, hm, hq, hu, hb⟩
  case round =>
    clear ho hs hm hq hu hb fx hS4 hNA
    obtain ⟨k, hk, rfl, ho, hs, hm, hq, hu, hb⟩ := hrel
    have fx := hs.cell
    by_cases hlt : k < 4
    · have hk4 : k < 4 := hlt
      have HG : Hid (∀ W (z : Int), RefAt W N p f r → z = ((av + 4 * k : Nat) : Int) → Calls Tryd.prog 38 #[.slice (some ⟨r.gB, 0, none⟩) N r.cB, .int .i64 z, .int .i64 4] W fun e w' => e = .returned (.tuple #[.int .u32 (wordsF f av k : Nat), .int .i64 0]) ∧ w' = W) := hide (fun W z hR hz => by
        rw [hz]
        have hc := hR.capB
        have h := rget_wide r.gB N r.cB (fun j => UInt8.ofNat (f j)) (av + 4 * k) 4 (by decide) (by omega) (by omega) hc.1 hc.2 (by have := hR.few; omega) W (fun j hj => by
          have hs := hR.small j
          rw [hR.bytes.cell hj, show (UInt8.ofNat (f j)).toNat = f j by simp; omega])
        rw [ref_numF f hR.small] at h
        exact h)
      go_wp2_with (first | ((with_reducible refine ld_B (w.heap.size + 1) r N p hm ?_ ?_); exact rfl) | (go_at_call 38; (with_reducible refine (HG.out _ _ (HRf.out.bl hb) ?_).mono ?_); (first | omega | (simp; omega)); rintro e W2 ⟨rfl, rfl⟩) | ((with_reducible refine st_a4 NA k _ (wordsF f av k) hk4 ho ?_ ?_ ?_); exact rfl; exact rfl; intro W hnew hoo; replace hs := hs.only hoo (by omega); replace hm := hm.only hoo (by omega); replace hq := hq.only hoo (by omega); replace hu := hu.only hoo (by omega); replace fx := hs.cell; replace hb := hoo.bel _ _ (by omega) hb; replace ho := (until_step f av k hk4) ▸ hnew; clear hnew hoo))
      go_roundw
      case rel => exact ⟨k + 1, hlt, by go_num, ho, hs, hm, hq, hu, hb⟩
      case measure => show 4 - (((k : Int) + 1)).toNat < 4 - ((k : Int)).toNat; omega
    · obtain rfl : k = 4 := by omega
      replace ho := (until_four f av) ▸ ho
      rw [HG0.out] at ho
      have fo2 : ∀ V, RowAt V NA (ordV g) 80 → V.cell? ⟨NA, 2, none⟩ = some (.int .u32 (g 2 : Nat)) := fun V h => h.cell 2
      have hg2 : g 2 ≠ 0 := fun e => h6 (.inl e)
      have hg3 : g 2 ≤ 65536 := by omega
      have u1 : ((g 2 : Int) == 0) = false := (castq (g 2) 0).trans (by simp [hg2])
      have u2 : decide ((65536 : Int) < (g 2 : Int)) = false := by simp; omega
      have u2n : decide (65536 < g 2) = false := by simp; omega
      clear h6
      go_wp2_with (first | ((with_reducible refine ld_est w.heap.size _ _ hs ?_ ?_); exact rfl) | ((with_reducible refine st_est w.heap.size _ (s.st + 1) _ hs ?_ ?_ ?_); exact rfl; exact rfl; intro W hnew hoo; replace hm := hm.only hoo (by omega); replace hq := hq.only hoo (by omega); replace hu := hu.only hoo (by omega); replace ho := ho.only hoo (by omega); replace hb := hoo.bel _ _ (by omega) hb; replace hs := hnew; have fo := fo2 _ ho; clear hnew hoo fx))
      refine wp_region_held_drew (S := (fun V => RowAt V NA (ordV g) 80 ∧ RowAt V (w.heap.size + 1) (r.v N p) 46 ∧ RowAt V (w.heap.size + 1 + 1) zeroE.cells 24 ∧ RowAt V (w.heap.size + 1 + 1 + 1) zR 46 ∧ Below w.heap.size w V)) (by kernel_rfl) ?_ (fun hHeld => ?_)
      · exact ⟨ho.dr, hm.dr, hq.dr, hu.dr, hb.drew⟩
      replace hs := hs.dr
      generalize World.drew _ = V at hHeld hs ⊢
      clear ho hm hq hu hb fo
      refine wpAnyH_take (i := 0) (oi := ?oi34) (v := .pointer (some ⟨NA, 0, none⟩)) ?hi34 (by kernel_rfl) (by kernel_rfl) (by kernel_rfl) ?hQ34 ?hy34 (by assumption) ?rest34
      case hi34 => (simp only [List.getElem?_toArray, List.getElem?_cons_zero]; rfl)
      case hQ34 => exact fun _ _ _ h => h
      case hy34 => exact Or.inl ⟨by rfl, by (intro w hSw; (try dsimp only at hSw); go_simp )⟩
      simp only [Act.put, List.setIfInBounds_toArray, List.set_cons_zero, List.set_cons_succ]
      refine wpAnyH_take (i := 1) (oi := ?oi35) (v := .int .u32 (g 0 : Nat)) ?hi35 (by kernel_rfl) (by kernel_rfl) (by kernel_rfl) ?hQ35 ?hy35 (by assumption) ?rest35
      case hi35 => (simp only [List.getElem?_toArray, List.getElem?_cons_zero, List.getElem?_cons_succ]; rfl)
      case hQ35 => exact fun _ _ _ h => h
      case hy35 => exact y_a4 NA 0 g (by decide) (fun V hV => hV.1) rfl
      simp only [Act.put, List.setIfInBounds_toArray, List.set_cons_zero, List.set_cons_succ]
      refine wpAnyH_take (i := 2) (oi := ?oi36) (v := .pointer (some ⟨NA, 1, none⟩)) ?hi36 (by kernel_rfl) (by kernel_rfl) (by kernel_rfl) ?hQ36 ?hy36 (by assumption) ?rest36
      case hi36 => (simp only [List.getElem?_toArray, List.getElem?_cons_zero, List.getElem?_cons_succ]; rfl)
      case hQ36 => exact fun _ _ _ h => h
      case hy36 => exact Or.inl ⟨by rfl, by (intro w hSw; (try dsimp only at hSw); go_simp )⟩
      simp only [Act.put, List.setIfInBounds_toArray, List.set_cons_zero, List.set_cons_succ]
      refine wpAnyH_take (i := 3) (oi := ?oi37) (v := .int .u32 (g 1 : Nat)) ?hi37 (by kernel_rfl) (by kernel_rfl) (by kernel_rfl) ?hQ37 ?hy37 (by assumption) ?rest37
      case hi37 => (simp only [List.getElem?_toArray, List.getElem?_cons_zero, List.getElem?_cons_succ]; rfl)
      case hQ37 => exact fun _ _ _ h => h
      case hy37 => exact y_a4 NA 1 g (by decide) (fun V hV => hV.1) rfl
      simp only [Act.put, List.setIfInBounds_toArray, List.set_cons_zero, List.set_cons_succ]
      refine wpAnyH_take (i := 4) (oi := ?oi38) (v := .pointer (some ⟨NA, 2, none⟩)) ?hi38 (by kernel_rfl) (by kernel_rfl) (by kernel_rfl) ?hQ38 ?hy38 (by assumption) ?rest38
      case hi38 => (simp only [List.getElem?_toArray, List.getElem?_cons_zero, List.getElem?_cons_succ]; rfl)
      case hQ38 => exact fun _ _ _ h => h
      case hy38 => exact Or.inl ⟨by rfl, by (intro w hSw; (try dsimp only at hSw); go_simp )⟩
      simp only [Act.put, List.setIfInBounds_toArray, List.set_cons_zero, List.set_cons_succ]
      refine wpAnyH_take (i := 5) (oi := ?oi39) (v := .int .u32 (g 2 : Nat)) ?hi39 (by kernel_rfl) (by kernel_rfl) (by kernel_rfl) ?hQ39 ?hy39 (by assumption) ?rest39
      case hi39 => (simp only [List.getElem?_toArray, List.getElem?_cons_zero, List.getElem?_cons_succ]; rfl)
      case hQ39 => exact fun _ _ _ h => h
      case hy39 => exact y_a4 NA 2 g (by decide) (fun V hV => hV.1) rfl
      simp only [Act.put, List.setIfInBounds_toArray, List.set_cons_zero, List.set_cons_succ]
      refine wpAnyH_take (i := 6) (oi := ?oi40) (v := .pointer (some ⟨NA, 3, none⟩)) ?hi40 (by kernel_rfl) (by kernel_rfl) (by kernel_rfl) ?hQ40 ?hy40 (by assumption) ?rest40
      case hi40 => (simp only [List.getElem?_toArray, List.getElem?_cons_zero, List.getElem?_cons_succ]; rfl)
      case hQ40 => exact fun _ _ _ h => h
      case hy40 => exact Or.inl ⟨by rfl, by (intro w hSw; (try dsimp only at hSw); go_simp )⟩
      simp only [Act.put, List.setIfInBounds_toArray, List.set_cons_zero, List.set_cons_succ]
      refine wpAnyH_take (i := 7) (oi := ?oi41) (v := .int .u32 (g 3 : Nat)) ?hi41 (by kernel_rfl) (by kernel_rfl) (by kernel_rfl) ?hQ41 ?hy41 (by assumption) ?rest41
      case hi41 => (simp only [List.getElem?_toArray, List.getElem?_cons_zero, List.getElem?_cons_succ]; rfl)
      case hQ41 => exact fun _ _ _ h => h
      case hy41 => exact y_a4 NA 3 g (by decide) (fun V hV => hV.1) rfl
      simp only [Act.put, List.setIfInBounds_toArray, List.set_cons_zero, List.set_cons_succ]
      refine wpAnyH_take (i := 8) (oi := ?oi42) (v := .pointer (some ⟨w.heap.size, 5, none⟩)) ?hi42 (by kernel_rfl) (by kernel_rfl) (by kernel_rfl) ?hQ42 ?hy42 (by assumption) ?rest42
      case hi42 => (simp only [List.getElem?_toArray, List.getElem?_cons_zero, List.getElem?_cons_succ]; rfl)
      case hQ42 => exact fun _ _ _ h => h
      case hy42 => exact Or.inl ⟨by rfl, by (intro w hSw; (try dsimp only at hSw); go_simp )⟩
      simp only [Act.put, List.setIfInBounds_toArray, List.set_cons_zero, List.set_cons_succ]
      refine wpAnyH_ready (rs := [9]) (by kernel_rfl) (by simp) ?_
      refine AllReadyH.cons (o := ?oi43) ?hi43 (fun K hK => ?_) AllReadyH.nil
      case hi43 => (simp only [List.getElem?_toArray, List.getElem?_cons_zero, List.getElem?_cons_succ]; rfl)
      rw [if_pos (by rfl)]
      (with_reducible refine s_ehv w.heap.size _ true _ hs ?_ ?_ ?_)
      · exact rfl
      · exact rfl
      intro V hnew hoo
      have hH2 := hide (And.intro (hHeld.1.only hoo (by omega)) (And.intro (hHeld.2.1.only hoo (by omega)) (And.intro (hHeld.2.2.1.only hoo (by omega)) (And.intro (hHeld.2.2.2.1.only hoo (by omega)) (hoo.bel _ _ (Nat.le_refl _) hHeld.2.2.2.2)))))
      replace hs := hnew
      clear hHeld hnew hoo
      refine hK.out _ _ ?_ (fun hHeld => ?_)
      · exact hH2.out
      clear hK K
      clear hH2
      refine wpAnyH_take (i := 10) (oi := ?oi44) (v := .pointer (some ⟨w.heap.size, 6, none⟩)) ?hi44 (by kernel_rfl) (by kernel_rfl) (by kernel_rfl) ?hQ44 ?hy44 (by assumption) ?rest44
      case hi44 => (simp only [List.getElem?_toArray, List.getElem?_cons_zero, List.getElem?_cons_succ]; rfl)
      case hQ44 => exact fun _ _ _ h => h
      case hy44 => exact Or.inl ⟨by rfl, by (intro w hSw; (try dsimp only at hSw); go_simp )⟩
      simp only [Act.put, List.setIfInBounds_toArray, List.set_cons_zero, List.set_cons_succ]
      refine wpAnyH_ready (rs := [11]) (by kernel_rfl) (by simp) ?_
      refine AllReadyH.cons (o := ?oi45) ?hi45 (fun K hK => ?_) AllReadyH.nil
      case hi45 => (simp only [List.getElem?_toArray, List.getElem?_cons_zero, List.getElem?_cons_succ]; rfl)
      rw [if_pos (by rfl)]
      (with_reducible refine s_efr w.heap.size _ (g 0) _ hs ?_ ?_ ?_)
      · exact rfl
      · exact rfl
      intro V hnew hoo
      have hH2 := hide (And.intro (hHeld.1.only hoo (by omega)) (And.intro (hHeld.2.1.only hoo (by omega)) (And.intro (hHeld.2.2.1.only hoo (by omega)) (And.intro (hHeld.2.2.2.1.only hoo (by omega)) (hoo.bel _ _ (Nat.le_refl _) hHeld.2.2.2.2)))))
      replace hs := hnew
      clear hHeld hnew hoo
      refine hK.out _ _ ?_ (fun hHeld => ?_)
      · exact hH2.out
      clear hK K
      clear hH2
      refine wpAnyH_take (i := 12) (oi := ?oi46) (v := .pointer (some ⟨w.heap.size, 7, none⟩)) ?hi46 (by kernel_rfl) (by kernel_rfl) (by kernel_rfl) ?hQ46 ?hy46 (by assumption) ?rest46
      case hi46 => (simp only [List.getElem?_toArray, List.getElem?_cons_zero, List.getElem?_cons_succ]; rfl)
      case hQ46 => exact fun _ _ _ h => h
      case hy46 => exact Or.inl ⟨by rfl, by (intro w hSw; (try dsimp only at hSw); go_simp )⟩
      simp only [Act.put, List.setIfInBounds_toArray, List.set_cons_zero, List.set_cons_succ]
      refine wpAnyH_ready (rs := [13]) (by kernel_rfl) (by simp) ?_
      refine AllReadyH.cons (o := ?oi47) ?hi47 (fun K hK => ?_) AllReadyH.nil
      case hi47 => (simp only [List.getElem?_toArray, List.getElem?_cons_zero, List.getElem?_cons_succ]; rfl)
      rw [if_pos (by rfl)]
      (with_reducible refine s_ett w.heap.size _ (g 1) _ hs ?_ ?_ ?_)
      · exact rfl
      · exact rfl
      intro V hnew hoo
      have hH2 := hide (And.intro (hHeld.1.only hoo (by omega)) (And.intro (hHeld.2.1.only hoo (by omega)) (And.intro (hHeld.2.2.1.only hoo (by omega)) (And.intro (hHeld.2.2.2.1.only hoo (by omega)) (hoo.bel _ _ (Nat.le_refl _) hHeld.2.2.2.2)))))
      replace hs := hnew
      clear hHeld hnew hoo
      refine hK.out _ _ ?_ (fun hHeld => ?_)
      · exact hH2.out
      clear hK K
      clear hH2
      refine wpAnyH_take (i := 14) (oi := ?oi48) (v := .pointer (some ⟨w.heap.size, 8, none⟩)) ?hi48 (by kernel_rfl) (by kernel_rfl) (by kernel_rfl) ?hQ48 ?hy48 (by assumption) ?rest48
      case hi48 => (simp only [List.getElem?_toArray, List.getElem?_cons_zero, List.getElem?_cons_succ]; rfl)
      case hQ48 => exact fun _ _ _ h => h
      case hy48 => exact Or.inl ⟨by rfl, by (intro w hSw; (try dsimp only at hSw); go_simp )⟩
      simp only [Act.put, List.setIfInBounds_toArray, List.set_cons_zero, List.set_cons_succ]
      refine wpAnyH_ready (rs := [15]) (by kernel_rfl) (by simp) ?_
      refine AllReadyH.cons (o := ?oi49) ?hi49 (fun K hK => ?_) AllReadyH.nil
      case hi49 => (simp only [List.getElem?_toArray, List.getElem?_cons_zero, List.getElem?_cons_succ]; rfl)
      rw [if_pos (by rfl)]
      (with_reducible refine s_elf w.heap.size _ (g 2) _ hs ?_ ?_ ?_)
      · exact rfl
      · exact rfl
      intro V hnew hoo
      have hH2 := hide (And.intro (hHeld.1.only hoo (by omega)) (And.intro (hHeld.2.1.only hoo (by omega)) (And.intro (hHeld.2.2.1.only hoo (by omega)) (And.intro (hHeld.2.2.2.1.only hoo (by omega)) (hoo.bel _ _ (Nat.le_refl _) hHeld.2.2.2.2)))))
      replace hs := hnew
      clear hHeld hnew hoo
      refine hK.out _ _ ?_ (fun hHeld => ?_)
      · exact hH2.out
      clear hK K
      clear hH2
      refine wpAnyH_take (i := 16) (oi := ?oi50) (v := .pointer (some ⟨w.heap.size, 9, none⟩)) ?hi50 (by kernel_rfl) (by kernel_rfl) (by kernel_rfl) ?hQ50 ?hy50 (by assumption) ?rest50
      case hi50 => (simp only [List.getElem?_toArray, List.getElem?_cons_zero, List.getElem?_cons_succ]; rfl)
      case hQ50 => exact fun _ _ _ h => h
      case hy50 => exact Or.inl ⟨by rfl, by (intro w hSw; (try dsimp only at hSw); go_simp )⟩
      simp only [Act.put, List.setIfInBounds_toArray, List.set_cons_zero, List.set_cons_succ]
      refine wpAnyH_ready (rs := [17]) (by kernel_rfl) (by simp) ?_
      refine AllReadyH.cons (o := ?oi51) ?hi51 (fun K hK => ?_) AllReadyH.nil
      case hi51 => (simp only [List.getElem?_toArray, List.getElem?_cons_zero, List.getElem?_cons_succ]; rfl)
      rw [if_pos (by rfl)]
      (with_reducible refine s_enx w.heap.size _ (g 3) _ hs ?_ ?_ ?_)
      · exact rfl
      · exact rfl
      intro V hnew hoo
      have hH2 := hide (And.intro (hHeld.1.only hoo (by omega)) (And.intro (hHeld.2.1.only hoo (by omega)) (And.intro (hHeld.2.2.1.only hoo (by omega)) (And.intro (hHeld.2.2.2.1.only hoo (by omega)) (hoo.bel _ _ (Nat.le_refl _) hHeld.2.2.2.2)))))
      replace hs := hnew
      clear hHeld hnew hoo
      refine hK.out _ _ ?_ (fun hHeld => ?_)
      · exact hH2.out
      clear hK K
      clear hH2
      refine wpAnyH_done (by kernel_rfl) ?_ _
      obtain ⟨ho, hm, hq, hu, hb⟩ := hHeld
      go_wp2_with (fail)
      rw [HSF.out] at hs
      refine wp_region_held_drew (S := (fun V => RowAt V w.heap.size sf.cells 24 ∧ RowAt V (w.heap.size + 1) (r.v N p) 46 ∧ Below w.heap.size w V)) (by kernel_rfl) ?_ (fun hHeld => ?_)
      · exact ⟨hs.dr, hm.dr, hb.drew⟩
      replace hq := hq.dr
      replace hu := hu.dr
      generalize World.drew _ = V at hHeld hq hu ⊢
      refine wpAnyH_take (i := 0) (oi := ?oi52) (v := .agg sf.cells) ?hi52 (by kernel_rfl) (by kernel_rfl) (by kernel_rfl) ?hQ52 ?hy52 (by assumption) ?rest52
      case hi52 => (simp only [List.getElem?_toArray, List.getElem?_cons_zero]; rfl)
      case hQ52 => exact fun _ _ _ h => h
      case hy52 => exact y_er w.heap.size sf (fun V hV => hV.1) rfl rfl
      simp only [Act.put, List.setIfInBounds_toArray, List.set_cons_zero, List.set_cons_succ]
      refine wpAnyH_take (i := 1) (oi := ?oi53) (v := .agg (r.v N p)) ?hi53 (by kernel_rfl) (by kernel_rfl) (by kernel_rfl) ?hQ53 ?hy53 (by assumption) ?rest53
      case hi53 => (simp only [List.getElem?_toArray, List.getElem?_cons_zero, List.getElem?_cons_succ]; rfl)
      case hQ53 => exact fun _ _ _ h => h
      case hy53 => exact y_Rw (w.heap.size + 1) r N p (fun V hV => hV.2.1) rfl
      simp only [Act.put, List.setIfInBounds_toArray, List.set_cons_zero, List.set_cons_succ]
      refine wpAnyH_ready (rs := [2]) (by kernel_rfl) (by simp) ?_
      refine AllReadyH.cons (o := ?oi54) ?hi54 (fun K hK => ?_) AllReadyH.nil
      case hi54 => (simp only [List.getElem?_toArray, List.getElem?_cons_zero, List.getElem?_cons_succ]; rfl)
      rw [if_pos (by rfl)]
      (with_reducible refine s_er (w.heap.size + 1 + 1) _ sf hq ?_ ?_ ?_)
      · exact rfl
      · exact rfl
      intro V3 hnew hoo
      have hH2 := hide (And.intro (hHeld.1.only hoo (by omega)) (And.intro (hHeld.2.1.only hoo (by omega)) (hoo.bel _ _ (by omega) hHeld.2.2)))
      replace hu := hu.only hoo (by omega)
      replace hq := hnew
      clear hHeld hnew hoo
      refine hK.out _ _ ?_ (fun hHeld => ?_)
      · exact hH2.out
      clear hK K
      clear hH2
      refine wpAnyH_ready (rs := [3]) (by kernel_rfl) (by simp) ?_
      refine AllReadyH.cons (o := ?oi55) ?hi55 (fun K hK => ?_) AllReadyH.nil
      case hi55 => (simp only [List.getElem?_toArray, List.getElem?_cons_zero, List.getElem?_cons_succ]; rfl)
      rw [if_pos (by rfl)]
      (with_reducible refine s_stR (w.heap.size + 1 + 1 + 1) _ r N p hu ?_ ?_ ?_ ?_)
      · exact rfl
      · exact rfl
      · exact rfl
      intro V4 hnew hoo
      have hH2 := hide (And.intro (hHeld.1.only hoo (by omega)) (And.intro (hHeld.2.1.only hoo (by omega)) (hoo.bel _ _ (by omega) hHeld.2.2)))
      replace hq := hq.only hoo (by omega)
      replace hu := hnew
      clear hHeld hnew hoo
      refine hK.out _ _ ?_ (fun hHeld => ?_)
      · exact hH2.out
      clear hK K
      clear hH2
      refine wpAnyH_done (by kernel_rfl) ?_ _
      go_wp2_with (fail)
      refine bodyPost_ret (results_two_rows Tryd.results19 _ _ (w.heap.size + 1 + 1) (w.heap.size + 1 + 1 + 1) _ _ _ _ _ _ rfl hq Tryd.underlying24 rfl size_er rfl hu Tryd.underlying46 rfl size_R) rfl ?_
      exact ⟨r, rfl, HRf.out.bl hHeld.2.2, fun x hx => .inl hx, hHeld.2.2⟩
end Go.Proofs.YtalcgipcephnnaaDoor
