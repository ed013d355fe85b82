/-
  The document's Tick.
-/
import Derived.Test.YtalcgipcephnnaaDoorJDmRT3
import Derived.Test.YtalcgipcephnnaaDoorJDmMove
namespace Go.Proofs.YtalcgipcephnnaaDoor
open Go.RowKit
set_option linter.unusedVariables false
set_option linter.unusedSimpArgs false

attribute [local go_sem] E.at0 E.at1 E.at2 E.at3 E.at4 E.at5 E.at6 E.at7 E.at8 E.at9 E.at10
set_option maxRecDepth 20000 in
set_option maxHeartbeats 4000000 in
theorem rt_mfrom {w : World} (s : E) (ok : s.Ok) {N p : Nat} {f : Nat → Nat} {r : RP} (h : RefAt w N p f r) (hmay : mayE s = true) (h1 : s.cd = 1) (h2 : s.hv = true) (hl : 1 ≤ s.lf) (h3 : inB p s.fr (burst s) = false) : Calls Tryd.prog 19 #[.agg s.cells, .agg (r.v N p)] w fun e w' => ∃ r' : RP, e = .returned (.tuple #[.agg (endE s 3).cells, .agg (r'.v N p)]) ∧ RefAt w' N p (f) r' ∧ (∀ x, r'.owns x → r.owns x ∨ w.heap.size ≤ x) ∧ Below w.heap.size w w' := by
  have HRf := hide h
  have hpf := h.few
  have hp1 : p ≤ 16384 := hpf.2.1
  have hNp := hide hpf.2.2
  clear h hpf
  have HC := hide (fun w => rcheck_any s w)
  rw [hmay, show chkE true = 0 from rfl] at HC
  have t1 : ((s.cd : Int) == 1) = true := (castq s.cd 1).trans (by simp [h1])
  obtain ⟨hn0, hn64, hnl⟩ := burst_le hl
  obtain ⟨n, hn⟩ : ∃ n, burst s = n := ⟨_, rfl⟩
  have hmin : min (s.lf : Int) 64 = (n : Int) := by rw [← hn]; unfold burst; split <;> omega
  rw [hn] at hn0 hn64 hnl
  have HIn : Hid (∀ x, x < 4294967296 → ∀ W, Calls Tryd.prog 36 #[.agg (r.v N p), .int .u32 (x : Nat), .int .u32 (n : Nat)] W fun e w' => e = .returned (.bool (inB p x n)) ∧ Below W.heap.size W w') := hide (fun x hx W => rin_any r N p x n hNp.out hp1 hx hn64 W)
  have okf := ok.fr
  have okt := ok.tt
  rw [hn] at h3
  have HFl : Hid (∀ W, Calls Tryd.prog 37 #[.agg s.cells] W fun e w' => e = .returned (.agg (endE s 3).cells) ∧ Below W.heap.size W w') := hide (fun W => rfail_any s W)
  clear h1 hn hl
  go_enter Tryd.func19, Tryd.ntmps19
  go_wp2_with (first | ((with_reducible refine bx_er w.heap.size s ?_ ?_ ?_); exact rfl; exact rfl; intro W hs hb hz) | ((with_reducible refine bx_R (w.heap.size + 1) r N p ?_ ?_ ?_); exact hz.out; exact rfl; intro W hm hb' hz'; replace hs := hs.bl (hz.out ▸ hb'); replace hb := hb.trans (hb'.mono (by omega)); replace hz := hz'; clear hb' hz') | ((with_reducible refine al_er (w.heap.size + 1 + 1) ?_ ?_); exact hz.out; intro W hq hb' hz'; replace hs := hs.bl (hz.out ▸ hb'); replace hm := hm.bl (hz.out ▸ hb'); replace hb := hb.trans (hb'.mono (by omega)); replace hz := hz'; clear hb' hz') | ((with_reducible refine al_Rz (w.heap.size + 1 + 1 + 1) ?_ ?_); exact hz.out; intro W hu hb' hz'; replace hs := hs.bl (hz.out ▸ hb'); replace hm := hm.bl (hz.out ▸ hb'); replace hq := hq.bl (hz.out ▸ hb'); replace hb := hb.trans (hb'.mono (by omega)); have hS4 : w.heap.size + 4 ≤ W.heap.size := (by have := hz'.out; omega); have fx := hs.cell; clear hb' hz' hz) | ((with_reducible refine ld_er w.heap.size _ hs ?_ ?_ ?_); exact rfl; exact rfl) | (go_at_call 15; (with_reducible refine (HC.out _).mono ?_); rintro e W ⟨rfl, hbc⟩; replace hs := hs.bl hbc; replace hm := hm.bl hbc; replace hq := hq.bl hbc; replace hu := hu.bl hbc; replace hS4 := Nat.le_trans hS4 hbc.size; replace fx := hs.cell; replace hb := below_bl rfl hb hbc; clear hbc) | ((with_reducible refine ld_Rw (w.heap.size + 1) _ N p hm ?_ ?_ ?_); exact rfl; exact rfl) | (go_at_call 36; (with_reducible refine (HIn.out _ (by assumption) _).mono ?_); rintro e W ⟨rfl, hbc⟩; replace hs := hs.bl hbc; replace hm := hm.bl hbc; replace hq := hq.bl hbc; replace hu := hu.bl hbc; replace hS4 := Nat.le_trans hS4 hbc.size; replace fx := hs.cell; replace hb := below_bl rfl hb hbc; clear hbc) | ((with_reducible refine ld_elf w.heap.size _ _ hs ?_ ?_); exact rfl) | ((with_reducible refine ld_efr w.heap.size _ _ hs ?_ ?_); exact rfl) | ((with_reducible refine ld_ett w.heap.size _ _ hs ?_ ?_); exact rfl))
  refine wp_region_held_drew (S := (fun V => RowAt V w.heap.size s.cells 24 ∧ RowAt V (w.heap.size + 1) (r.v N p) 46 ∧ Below w.heap.size w V)) (by kernel_rfl) ?_ (fun hHeld => ?_)
  · exact ⟨hs.dr, hm.dr, hb.drew⟩
  replace hq := hq.dr
  replace hu := hu.dr
  generalize World.drew _ = V at hHeld hq hu ⊢
  refine wpAnyH_take (i := 0) (oi := ?oi56) (v := .agg s.cells) ?hi56 (by kernel_rfl) (by kernel_rfl) (by kernel_rfl) ?hQ56 ?hy56 (by assumption) ?rest56
  case hi56 => (simp only [List.getElem?_toArray, List.getElem?_cons_zero]; rfl)
  case hQ56 => exact fun _ _ _ h => h
  case hy56 => exact y_er w.heap.size s (fun V hV => hV.1) rfl rfl
  simp only [Act.put, List.setIfInBounds_toArray, List.set_cons_zero, List.set_cons_succ]
  refine wpAnyH_take (i := 2) (oi := ?oi57) (v := .agg (r.v N p)) ?hi57 (by kernel_rfl) (by kernel_rfl) (by kernel_rfl) ?hQ57 ?hy57 (by assumption) ?rest57
  case hi57 => (simp only [List.getElem?_toArray, List.getElem?_cons_zero, List.getElem?_cons_succ]; rfl)
  case hQ57 => exact fun _ _ _ h => h
  case hy57 => exact y_Rw (w.heap.size + 1) r N p (fun V hV => hV.2.1) rfl
  simp only [Act.put, List.setIfInBounds_toArray, List.set_cons_zero, List.set_cons_succ]
  refine wpAnyH_ready (rs := [1]) (by kernel_rfl) (by simp) ?_
  refine AllReadyH.cons (o := ?oi58) ?hi58 (fun K hK => ?_) AllReadyH.nil
  case hi58 => (simp only [List.getElem?_toArray, List.getElem?_cons_zero, List.getElem?_cons_succ]; rfl)
  go_simp
  (with_reducible refine (HFl.out _).mono ?_)
  rintro e V2 ⟨rfl, hbc⟩
  have hH2 := hide (And.intro (hHeld.1.bl hbc) (And.intro (hHeld.2.1.bl hbc) (below_bl rfl hHeld.2.2 hbc)))
  replace hq := hq.bl hbc
  replace hu := hu.bl hbc
  clear hHeld hbc
  go_simp
  refine hK.out _ _ ?_ (fun hHeld => ?_)
  · exact hH2.out
  clear hK K
  clear hH2
  refine wpAnyH_ready (rs := [3]) (by kernel_rfl) (by simp) ?_
  refine AllReadyH.cons (o := ?oi59) ?hi59 (fun K hK => ?_) AllReadyH.nil
  case hi59 => (simp only [List.getElem?_toArray, List.getElem?_cons_zero, List.getElem?_cons_succ]; rfl)
  rw [if_pos (by rfl)]
  (with_reducible refine s_er (w.heap.size + 1 + 1) _ (endE s 3) hq ?_ ?_ ?_)
  · exact rfl
  · exact rfl
  intro V3 hnew hoo
  have hH2 := hide (And.intro (hHeld.1.only hoo (by omega)) (And.intro (hHeld.2.1.only hoo (by omega)) (hoo.bel _ _ (by omega) hHeld.2.2)))
  replace hu := hu.only hoo (by omega)
  replace hq := hnew
  clear hHeld hnew hoo
  refine hK.out _ _ ?_ (fun hHeld => ?_)
  · exact hH2.out
  clear hK K
  clear hH2
  refine wpAnyH_ready (rs := [4]) (by kernel_rfl) (by simp) ?_
  refine AllReadyH.cons (o := ?oi60) ?hi60 (fun K hK => ?_) AllReadyH.nil
  case hi60 => (simp only [List.getElem?_toArray, List.getElem?_cons_zero, List.getElem?_cons_succ]; rfl)
  rw [if_pos (by rfl)]
  (with_reducible refine s_stR (w.heap.size + 1 + 1 + 1) _ r N p hu ?_ ?_ ?_ ?_)
  · exact rfl
  · exact rfl
  · exact rfl
  intro V4 hnew hoo
  have hH2 := hide (And.intro (hHeld.1.only hoo (by omega)) (And.intro (hHeld.2.1.only hoo (by omega)) (hoo.bel _ _ (by omega) hHeld.2.2)))
  replace hq := hq.only hoo (by omega)
  replace hu := hnew
  clear hHeld hnew hoo
  refine hK.out _ _ ?_ (fun hHeld => ?_)
  · exact hH2.out
  clear hK K
  clear hH2
  refine wpAnyH_done (by kernel_rfl) ?_ _
  go_wp2_with (fail)
  refine bodyPost_ret (results_two_rows Tryd.results19 _ _ (w.heap.size + 1 + 1) (w.heap.size + 1 + 1 + 1) _ _ _ _ _ _ rfl hq Tryd.underlying24 rfl size_er rfl hu Tryd.underlying46 rfl size_R) rfl ?_
  exact ⟨r, rfl, HRf.out.bl hHeld.2.2, fun x hx => .inl hx, hHeld.2.2⟩
set_option maxRecDepth 20000 in
set_option maxHeartbeats 4000000 in
theorem rt_mto {w : World} (s : E) (ok : s.Ok) {N p : Nat} {f : Nat → Nat} {r : RP} (h : RefAt w N p f r) (hmay : mayE s = true) (h1 : s.cd = 1) (h2 : s.hv = true) (hl : 1 ≤ s.lf) (h3 : inB p s.fr (burst s) = true) (h4 : inB p s.tt (burst s) = false) : Calls Tryd.prog 19 #[.agg s.cells, .agg (r.v N p)] w fun e w' => ∃ r' : RP, e = .returned (.tuple #[.agg (endE s 3).cells, .agg (r'.v N p)]) ∧ RefAt w' N p (f) r' ∧ (∀ x, r'.owns x → r.owns x ∨ w.heap.size ≤ x) ∧ Below w.heap.size w w' := by
  have HRf := hide h
  have hpf := h.few
  have hp1 : p ≤ 16384 := hpf.2.1
  have hNp := hide hpf.2.2
  clear h hpf
  have HC := hide (fun w => rcheck_any s w)
  rw [hmay, show chkE true = 0 from rfl] at HC
  have t1 : ((s.cd : Int) == 1) = true := (castq s.cd 1).trans (by simp [h1])
  obtain ⟨hn0, hn64, hnl⟩ := burst_le hl
  obtain ⟨n, hn⟩ : ∃ n, burst s = n := ⟨_, rfl⟩
  have hmin : min (s.lf : Int) 64 = (n : Int) := by rw [← hn]; unfold burst; split <;> omega
  rw [hn] at hn0 hn64 hnl
  have HIn : Hid (∀ x, x < 4294967296 → ∀ W, Calls Tryd.prog 36 #[.agg (r.v N p), .int .u32 (x : Nat), .int .u32 (n : Nat)] W fun e w' => e = .returned (.bool (inB p x n)) ∧ Below W.heap.size W w') := hide (fun x hx W => rin_any r N p x n hNp.out hp1 hx hn64 W)
  have okf := ok.fr
  have okt := ok.tt
  rw [hn] at h3 h4
  have HFl : Hid (∀ W, Calls Tryd.prog 37 #[.agg s.cells] W fun e w' => e = .returned (.agg (endE s 3).cells) ∧ Below W.heap.size W w') := hide (fun W => rfail_any s W)
  clear h1 hn hl
  go_enter Tryd.func19, Tryd.ntmps19
  go_wp2_with (first | ((with_reducible refine bx_er w.heap.size s ?_ ?_ ?_); exact rfl; exact rfl; intro W hs hb hz) | ((with_reducible refine bx_R (w.heap.size + 1) r N p ?_ ?_ ?_); exact hz.out; exact rfl; intro W hm hb' hz'; replace hs := hs.bl (hz.out ▸ hb'); replace hb := hb.trans (hb'.mono (by omega)); replace hz := hz'; clear hb' hz') | ((with_reducible refine al_er (w.heap.size + 1 + 1) ?_ ?_); exact hz.out; intro W hq hb' hz'; replace hs := hs.bl (hz.out ▸ hb'); replace hm := hm.bl (hz.out ▸ hb'); replace hb := hb.trans (hb'.mono (by omega)); replace hz := hz'; clear hb' hz') | ((with_reducible refine al_Rz (w.heap.size + 1 + 1 + 1) ?_ ?_); exact hz.out; intro W hu hb' hz'; replace hs := hs.bl (hz.out ▸ hb'); replace hm := hm.bl (hz.out ▸ hb'); replace hq := hq.bl (hz.out ▸ hb'); replace hb := hb.trans (hb'.mono (by omega)); have hS4 : w.heap.size + 4 ≤ W.heap.size := (by have := hz'.out; omega); have fx := hs.cell; clear hb' hz' hz) | ((with_reducible refine ld_er w.heap.size _ hs ?_ ?_ ?_); exact rfl; exact rfl) | (go_at_call 15; (with_reducible refine (HC.out _).mono ?_); rintro e W ⟨rfl, hbc⟩; replace hs := hs.bl hbc; replace hm := hm.bl hbc; replace hq := hq.bl hbc; replace hu := hu.bl hbc; replace hS4 := Nat.le_trans hS4 hbc.size; replace fx := hs.cell; replace hb := below_bl rfl hb hbc; clear hbc) | ((with_reducible refine ld_Rw (w.heap.size + 1) _ N p hm ?_ ?_ ?_); exact rfl; exact rfl) | (go_at_call 36; (with_reducible refine (HIn.out _ (by assumption) _).mono ?_); rintro e W ⟨rfl, hbc⟩; replace hs := hs.bl hbc; replace hm := hm.bl hbc; replace hq := hq.bl hbc; replace hu := hu.bl hbc; replace hS4 := Nat.le_trans hS4 hbc.size; replace fx := hs.cell; replace hb := below_bl rfl hb hbc; clear hbc) | ((with_reducible refine ld_elf w.heap.size _ _ hs ?_ ?_); exact rfl) | ((with_reducible refine ld_efr w.heap.size _ _ hs ?_ ?_); exact rfl) | ((with_reducible refine ld_ett w.heap.size _ _ hs ?_ ?_); exact rfl))
  refine wp_region_held_drew (S := (fun V => RowAt V w.heap.size s.cells 24 ∧ RowAt V (w.heap.size + 1) (r.v N p) 46 ∧ Below w.heap.size w V)) (by kernel_rfl) ?_ (fun hHeld => ?_)
  · exact ⟨hs.dr, hm.dr, hb.drew⟩
  replace hq := hq.dr
  replace hu := hu.dr
  generalize World.drew _ = V at hHeld hq hu ⊢
  refine wpAnyH_take (i := 0) (oi := ?oi61) (v := .agg s.cells) ?hi61 (by kernel_rfl) (by kernel_rfl) (by kernel_rfl) ?hQ61 ?hy61 (by assumption) ?rest61
  case hi61 => (simp only [List.getElem?_toArray, List.getElem?_cons_zero]; rfl)
  case hQ61 => exact fun _ _ _ h => h
  case hy61 => exact y_er w.heap.size s (fun V hV => hV.1) rfl rfl
  simp only [Act.put, List.setIfInBounds_toArray, List.set_cons_zero, List.set_cons_succ]
  refine wpAnyH_take (i := 2) (oi := ?oi62) (v := .agg (r.v N p)) ?hi62 (by kernel_rfl) (by kernel_rfl) (by kernel_rfl) ?hQ62 ?hy62 (by assumption) ?rest62
  case hi62 => (simp only [List.getElem?_toArray, List.getElem?_cons_zero, List.getElem?_cons_succ]; rfl)
  case hQ62 => exact fun _ _ _ h => h
  case hy62 => exact y_Rw (w.heap.size + 1) r N p (fun V hV => hV.2.1) rfl
  simp only [Act.put, List.setIfInBounds_toArray, List.set_cons_zero, List.set_cons_succ]
  refine wpAnyH_ready (rs := [1]) (by kernel_rfl) (by simp) ?_
  refine AllReadyH.cons (o := ?oi63) ?hi63 (fun K hK => ?_) AllReadyH.nil
  case hi63 => (simp only [List.getElem?_toArray, List.getElem?_cons_zero, List.getElem?_cons_succ]; rfl)
  go_simp
  (with_reducible refine (HFl.out _).mono ?_)
  rintro e V2 ⟨rfl, hbc⟩
  have hH2 := hide (And.intro (hHeld.1.bl hbc) (And.intro (hHeld.2.1.bl hbc) (below_bl rfl hHeld.2.2 hbc)))
  replace hq := hq.bl hbc
  replace hu := hu.bl hbc
  clear hHeld hbc
  go_simp
  refine hK.out _ _ ?_ (fun hHeld => ?_)
  · exact hH2.out
  clear hK K
  clear hH2
  refine wpAnyH_ready (rs := [3]) (by kernel_rfl) (by simp) ?_
  refine AllReadyH.cons (o := ?oi64) ?hi64 (fun K hK => ?_) AllReadyH.nil
  case hi64 => (simp only [List.getElem?_toArray, List.getElem?_cons_zero, List.getElem?_cons_succ]; rfl)
  rw [if_pos (by rfl)]
  (with_reducible refine s_er (w.heap.size + 1 + 1) _ (endE s 3) hq ?_ ?_ ?_)
  · exact rfl
  · exact rfl
  intro V3 hnew hoo
  have hH2 := hide (And.intro (hHeld.1.only hoo (by omega)) (And.intro (hHeld.2.1.only hoo (by omega)) (hoo.bel _ _ (by omega) hHeld.2.2)))
  replace hu := hu.only hoo (by omega)
  replace hq := hnew
  clear hHeld hnew hoo
  refine hK.out _ _ ?_ (fun hHeld => ?_)
  · exact hH2.out
  clear hK K
  clear hH2
  refine wpAnyH_ready (rs := [4]) (by kernel_rfl) (by simp) ?_
  refine AllReadyH.cons (o := ?oi65) ?hi65 (fun K hK => ?_) AllReadyH.nil
  case hi65 => (simp only [List.getElem?_toArray, List.getElem?_cons_zero, List.getElem?_cons_succ]; rfl)
  rw [if_pos (by rfl)]
  (with_reducible refine s_stR (w.heap.size + 1 + 1 + 1) _ r N p hu ?_ ?_ ?_ ?_)
  · exact rfl
  · exact rfl
  · exact rfl
  intro V4 hnew hoo
  have hH2 := hide (And.intro (hHeld.1.only hoo (by omega)) (And.intro (hHeld.2.1.only hoo (by omega)) (hoo.bel _ _ (by omega) hHeld.2.2)))
  replace hq := hq.only hoo (by omega)
  replace hu := hnew
  clear hHeld hnew hoo
  refine hK.out _ _ ?_ (fun hHeld => ?_)
  · exact hH2.out
  clear hK K
  clear hH2
  refine wpAnyH_done (by kernel_rfl) ?_ _
  go_wp2_with (fail)
  refine bodyPost_ret (results_two_rows Tryd.results19 _ _ (w.heap.size + 1 + 1) (w.heap.size + 1 + 1 + 1) _ _ _ _ _ _ rfl hq Tryd.underlying24 rfl size_er rfl hu Tryd.underlying46 rfl size_R) rfl ?_
  exact ⟨r, rfl, HRf.out.bl hHeld.2.2, fun x hx => .inl hx, hHeld.2.2⟩
set_option maxRecDepth 20000 in
set_option maxHeartbeats 4000000 in
theorem rt_on {w : World} (s : E) (ok : s.Ok) {N p : Nat} {f : Nat → Nat} {r : RP} (h : RefAt w N p f r) (hmay : mayE s = true) (h1 : s.cd = 1) (h2 : s.hv = true) (hl : 1 ≤ s.lf) (h3 : inB p s.fr (burst s) = true) (h4 : inB p s.tt (burst s) = true) (h5 : burst s < s.lf) : Calls Tryd.prog 19 #[.agg s.cells, .agg (r.v N p)] w fun e w' => ∃ r' : RP, e = .returned (.tuple #[.agg (onE s).cells, .agg (r'.v N p)]) ∧ RefAt w' N p (wroteF f (s.tt - 2147483648) (cutF f (s.fr - 2147483648) (burst s))) r' ∧ (∀ x, r'.owns x → r.owns x ∨ w.heap.size ≤ x) ∧ Below w.heap.size w w' := by
  have HRf := hide h
  have hpf := h.few
  have hp1 : p ≤ 16384 := hpf.2.1
  have hNp := hide hpf.2.2
  clear h hpf
  have HC := hide (fun w => rcheck_any s w)
  rw [hmay, show chkE true = 0 from rfl] at HC
  have t1 : ((s.cd : Int) == 1) = true := (castq s.cd 1).trans (by simp [h1])
  obtain ⟨hn0, hn64, hnl⟩ := burst_le hl
  obtain ⟨n, hn⟩ : ∃ n, burst s = n := ⟨_, rfl⟩
  have hmin : min (s.lf : Int) 64 = (n : Int) := by rw [← hn]; unfold burst; split <;> omega
  rw [hn] at hn0 hn64 hnl
  have HIn : Hid (∀ x, x < 4294967296 → ∀ W, Calls Tryd.prog 36 #[.agg (r.v N p), .int .u32 (x : Nat), .int .u32 (n : Nat)] W fun e w' => e = .returned (.bool (inB p x n)) ∧ Below W.heap.size W w') := hide (fun x hx W => rin_any r N p x n hNp.out hp1 hx hn64 W)
  have okf := ok.fr
  have okt := ok.tt
  obtain ⟨hin1, hin2⟩ := inM_of h3
  obtain ⟨hin3, hin4⟩ := inM_of h4
  have hx1 : 2147483648 ≤ s.fr := (of_decide_eq_true h3).1
  have hx2 : 2147483648 ≤ s.tt := (of_decide_eq_true h4).1
  rw [hn] at hin2 hin4 h3 h4 ⊢
  obtain ⟨a1, ha1⟩ : ∃ a, s.fr - 2147483648 = a := ⟨_, rfl⟩
  obtain ⟨a2, ha2⟩ : ∃ a, s.tt - 2147483648 = a := ⟨_, rfl⟩
  have hav1 : (s.fr : Int) - 2147483648 = (a1 : Int) := by omega
  have hav2 : (s.tt : Int) - 2147483648 = (a2 : Int) := by omega
  have hl1 : a1 + n ≤ N := by rw [hNp.out]; omega
  have hl2 : a2 + n ≤ N := by rw [hNp.out]; omega
  have hN9 : N ≤ 67108864 := by have := hNp.out; omega
  rw [ha1, ha2]
  obtain ⟨F1, hF1⟩ : ∃ g, wroteF f a2 (cutF f a1 n) = g := ⟨_, rfl⟩
  rw [hF1]
  have HRd : Hid (∀ W, RefAt W N p f r → Calls Tryd.prog 39 #[.agg (r.v N p), .int .u32 (a1 : Nat), .int .i64 (n : Nat)] W fun e w' => e = .returned (.tuple #[.slice (some ⟨r.gB, a1, none⟩) n (r.cB - a1), .int .i64 0]) ∧ Below W.heap.size W w') := hide (fun W hR => rread_ex hR a1 n (by omega) hn0 hl1)
  have HWr : Hid (∀ W, RefAt W N p f r → Calls Tryd.prog 40 #[.agg (r.v N p), .int .u32 (a2 : Nat), .slice (some ⟨r.gB, a1, none⟩) n (r.cB - a1)] W fun e w' => (∃ r' : RP, e = .returned (.tuple #[.agg (r'.v N p), .int .i64 0]) ∧ RefAt w' N p F1 r' ∧ ∀ x, r'.owns x → W.heap.size ≤ x) ∧ Below W.heap.size W w') := hide (fun W hR => by
    have hc := hR.capB
    rw [← hF1]
    refine rwrite_ok hR a2 (by omega) (cutF f a1 n) (cutF_small hR.small _ _) n (cutF_len _ _ _) hn0 hl2 r.gB a1 (r.cB - a1) (by omega) (by omega) (fun j v hv => ?_) hR.bytes.lt
    have hj : j < n := by
      rcases Nat.lt_or_ge j n with e | e
      · exact e
      · rw [List.getElem?_eq_none (by rw [byteV_len, cutF_len]; exact e)] at hv; cases hv
    rw [byteV_at (by rw [cutF_len]; exact hj), cutF_at hj] at hv
    rw [hR.bytes.cell (j := a1 + j) (by omega)]
    exact hv)
  have e1 : ((s.fr : Int) + (n : Int)) % 4294967296 = ((m32 (s.fr + n) : Nat) : Int) := add_m32 _ _
  have e2 : ((s.tt : Int) + (n : Int)) % 4294967296 = ((m32 (s.tt + n) : Nat) : Int) := add_m32 _ _
  have e5 : ((s.mv : Int) + (n : Int)) % 4294967296 = ((m32 (s.mv + n) : Nat) : Int) := add_m32 _ _
  have e3 : ((s.lf : Int) - (n : Int)) = ((s.lf - n : Nat) : Int) := by omega
  have hlfb := ok.lf
  have e1n : (s.fr : Int) + (n : Int) = ((m32 (s.fr + n) : Nat) : Int) := by unfold m32; omega
  have e2n : (s.tt : Int) + (n : Int) = ((m32 (s.tt + n) : Nat) : Int) := by unfold m32; omega
  have e3m : ((s.lf : Int) - (n : Int)) % 4294967296 = ((s.lf - n : Nat) : Int) := by omega
  clear hin1 hin2 hin3 hin4 hx1 hx2 ha1 ha2 hF1
  have u1 : (n : Int) < (s.lf : Int) := by rw [hn] at h5; omega
  have u1n : n < s.lf := by rw [hn] at h5; exact h5
  rw [show onE s = ({ s with mv := m32 (s.mv + n), fr := m32 (s.fr + n), tt := m32 (s.tt + n), lf := s.lf - n } : E) by unfold onE; rw [hn]]
  clear h1 hl hn h5
  obtain ⟨sf, hsf⟩ : ∃ x : E, ({ s with mv := m32 (s.mv + n), fr := m32 (s.fr + n), tt := m32 (s.tt + n), lf := s.lf - n } : E) = x := ⟨_, rfl⟩
  have HSF := hide hsf
  rw [show ({ s with mv := m32 (s.mv + n), fr := m32 (s.fr + n), tt := m32 (s.tt + n), lf := s.lf - n } : E) = sf from hsf]
  clear hsf
  go_enter Tryd.func19, Tryd.ntmps19
  go_wp2_with (first | ((with_reducible refine bx_er w.heap.size s ?_ ?_ ?_); exact rfl; exact rfl; intro W hs hb hz) | ((with_reducible refine bx_R (w.heap.size + 1) r N p ?_ ?_ ?_); exact hz.out; exact rfl; intro W hm hb' hz'; replace hs := hs.bl (hz.out ▸ hb'); replace hb := hb.trans (hb'.mono (by omega)); replace hz := hz'; clear hb' hz') | ((with_reducible refine al_er (w.heap.size + 1 + 1) ?_ ?_); exact hz.out; intro W hq hb' hz'; replace hs := hs.bl (hz.out ▸ hb'); replace hm := hm.bl (hz.out ▸ hb'); replace hb := hb.trans (hb'.mono (by omega)); replace hz := hz'; clear hb' hz') | ((with_reducible refine al_Rz (w.heap.size + 1 + 1 + 1) ?_ ?_); exact hz.out; intro W hu hb' hz'; replace hs := hs.bl (hz.out ▸ hb'); replace hm := hm.bl (hz.out ▸ hb'); replace hq := hq.bl (hz.out ▸ hb'); replace hb := hb.trans (hb'.mono (by omega)); have hS4 : w.heap.size + 4 ≤ W.heap.size := (by have := hz'.out; omega); have fx := hs.cell; clear hb' hz' hz) | ((with_reducible refine ld_er w.heap.size _ hs ?_ ?_ ?_); exact rfl; exact rfl) | (go_at_call 15; (with_reducible refine (HC.out _).mono ?_); rintro e W ⟨rfl, hbc⟩; replace hs := hs.bl hbc; replace hm := hm.bl hbc; replace hq := hq.bl hbc; replace hu := hu.bl hbc; replace hS4 := Nat.le_trans hS4 hbc.size; replace fx := hs.cell; replace hb := below_bl rfl hb hbc; clear hbc) | ((with_reducible refine ld_Rw (w.heap.size + 1) _ N p hm ?_ ?_ ?_); exact rfl; exact rfl) | (go_at_call 36; (with_reducible refine (HIn.out _ (by assumption) _).mono ?_); rintro e W ⟨rfl, hbc⟩; replace hs := hs.bl hbc; replace hm := hm.bl hbc; replace hq := hq.bl hbc; replace hu := hu.bl hbc; replace hS4 := Nat.le_trans hS4 hbc.size; replace fx := hs.cell; replace hb := below_bl rfl hb hbc; clear hbc) | ((with_reducible refine ld_elf w.heap.size _ _ hs ?_ ?_); exact rfl) | ((with_reducible refine ld_efr w.heap.size _ _ hs ?_ ?_); exact rfl) | ((with_reducible refine ld_ett w.heap.size _ _ hs ?_ ?_); exact rfl) | ((with_reducible refine ld_emv w.heap.size _ _ hs ?_ ?_); exact rfl) | ((with_reducible refine ld_enx w.heap.size _ _ hs ?_ ?_); exact rfl) | ((with_reducible refine ld_ehd w.heap.size _ _ hs ?_ ?_); exact rfl) | ((with_reducible refine ld_est w.heap.size _ _ hs ?_ ?_); exact rfl) | ((with_reducible refine ld_epl w.heap.size _ _ hs ?_ ?_); exact rfl) | (go_at_call 39; (with_reducible refine (HRd.out _ (HRf.out.bl hb)).mono ?_); rintro e W ⟨rfl, hbc⟩; replace hs := hs.bl hbc; replace hm := hm.bl hbc; replace hq := hq.bl hbc; replace hu := hu.bl hbc; replace hS4 := Nat.le_trans hS4 hbc.size; replace fx := hs.cell; replace hb := below_bl rfl hb hbc; clear hbc) | (go_at_call 40; (with_reducible refine (HWr.out _ (HRf.out.bl hb)).mono ?_); rintro e W8 ⟨⟨r2, rfl, hRf2, hnw⟩, hbc⟩; have hnew2 : ∀ x, r2.owns x → w.heap.size ≤ x := (fun x hx => by have := hnw x hx; omega); have hno0 : ¬ r2.owns w.heap.size := (fun e => absurd (hnw _ e) (by omega)); have hno1 : ¬ r2.owns (w.heap.size + 1) := (fun e => absurd (hnw _ e) (by omega)); have hno2 : ¬ r2.owns (w.heap.size + 1 + 1) := (fun e => absurd (hnw _ e) (by omega)); have hno3 : ¬ r2.owns (w.heap.size + 1 + 1 + 1) := (fun e => absurd (hnw _ e) (by omega)); clear hnw; replace hs := hs.bl hbc; replace hm := hm.bl hbc; replace hq := hq.bl hbc; replace hu := hu.bl hbc; replace hS4 := Nat.le_trans hS4 hbc.size; replace fx := hs.cell; replace hb := below_bl rfl hb hbc; clear hbc) | ((with_reducible refine st_R (w.heap.size + 1) _ r2 N p hm ?_ ?_ ?_ ?_); exact rfl; exact rfl; exact rfl; intro W hnew hoo; replace hs := hs.only hoo (by omega); replace hq := hq.only hoo (by omega); replace hu := hu.only hoo (by omega); replace hRf2 := hRf2.only hoo hno1; replace hS4 := (show w.heap.size + 4 ≤ W.heap.size by rw [hoo.size]; exact hS4); replace fx := hs.cell; replace hb := hoo.bel _ _ (by omega) hb; replace hm := hnew; clear hnew hoo) | ((with_reducible refine st_emv w.heap.size _ (m32 (s.mv + n)) _ hs ?_ ?_ ?_); exact rfl; exact rfl; intro W hnew hoo; replace hm := hm.only hoo (by omega); replace hq := hq.only hoo (by omega); replace hu := hu.only hoo (by omega); replace hRf2 := hRf2.only hoo hno0; replace hS4 := (show w.heap.size + 4 ≤ W.heap.size by rw [hoo.size]; exact hS4); replace hb := hoo.bel _ _ (by omega) hb; replace hs := hnew; replace fx := hs.cell; clear hnew hoo) | ((with_reducible refine st_efr w.heap.size _ (m32 (s.fr + n)) _ hs ?_ ?_ ?_); exact rfl; exact rfl; intro W hnew hoo; replace hm := hm.only hoo (by omega); replace hq := hq.only hoo (by omega); replace hu := hu.only hoo (by omega); replace hRf2 := hRf2.only hoo hno0; replace hS4 := (show w.heap.size + 4 ≤ W.heap.size by rw [hoo.size]; exact hS4); replace hb := hoo.bel _ _ (by omega) hb; replace hs := hnew; replace fx := hs.cell; clear hnew hoo) | ((with_reducible refine st_ett w.heap.size _ (m32 (s.tt + n)) _ hs ?_ ?_ ?_); exact rfl; exact rfl; intro W hnew hoo; replace hm := hm.only hoo (by omega); replace hq := hq.only hoo (by omega); replace hu := hu.only hoo (by omega); replace hRf2 := hRf2.only hoo hno0; replace hS4 := (show w.heap.size + 4 ≤ W.heap.size by rw [hoo.size]; exact hS4); replace hb := hoo.bel _ _ (by omega) hb; replace hs := hnew; replace fx := hs.cell; clear hnew hoo) | ((with_reducible refine st_elf w.heap.size _ (s.lf - n) _ hs ?_ ?_ ?_); exact rfl; exact rfl; intro W hnew hoo; replace hm := hm.only hoo (by omega); replace hq := hq.only hoo (by omega); replace hu := hu.only hoo (by omega); replace hRf2 := hRf2.only hoo hno0; replace hS4 := (show w.heap.size + 4 ≤ W.heap.size by rw [hoo.size]; exact hS4); replace hb := hoo.bel _ _ (by omega) hb; replace hs := hnew; replace fx := hs.cell; clear hnew hoo))
  rw [HSF.out] at hs
  refine wp_region_held_drew (S := (fun V => RowAt V w.heap.size sf.cells 24 ∧ RowAt V (w.heap.size + 1) (r2.v N p) 46 ∧ Below w.heap.size w V ∧ RefAt V N p F1 r2)) (by kernel_rfl) ?_ (fun hHeld => ?_)
  · exact ⟨hs.dr, hm.dr, hb.drew, hRf2.drD⟩
  replace hq := hq.dr
  replace hu := hu.dr
  generalize World.drew _ = V at hHeld hq hu ⊢
  refine wpAnyH_take (i := 0) (oi := ?oi66) (v := .agg sf.cells) ?hi66 (by kernel_rfl) (by kernel_rfl) (by kernel_rfl) ?hQ66 ?hy66 (by assumption) ?rest66
  case hi66 => (simp only [List.getElem?_toArray, List.getElem?_cons_zero]; rfl)
  case hQ66 => exact fun _ _ _ h => h
  case hy66 => exact y_er w.heap.size sf (fun V hV => hV.1) rfl rfl
  simp only [Act.put, List.setIfInBounds_toArray, List.set_cons_zero, List.set_cons_succ]
  refine wpAnyH_take (i := 1) (oi := ?oi67) (v := .agg (r2.v N p)) ?hi67 (by kernel_rfl) (by kernel_rfl) (by kernel_rfl) ?hQ67 ?hy67 (by assumption) ?rest67
  case hi67 => (simp only [List.getElem?_toArray, List.getElem?_cons_zero, List.getElem?_cons_succ]; rfl)
  case hQ67 => exact fun _ _ _ h => h
  case hy67 => exact y_Rw (w.heap.size + 1) r2 N p (fun V hV => hV.2.1) rfl
  simp only [Act.put, List.setIfInBounds_toArray, List.set_cons_zero, List.set_cons_succ]
  refine wpAnyH_ready (rs := [2]) (by kernel_rfl) (by simp) ?_
  refine AllReadyH.cons (o := ?oi68) ?hi68 (fun K hK => ?_) AllReadyH.nil
  case hi68 => (simp only [List.getElem?_toArray, List.getElem?_cons_zero, List.getElem?_cons_succ]; rfl)
  rw [if_pos (by rfl)]
  (with_reducible refine s_er (w.heap.size + 1 + 1) _ sf hq ?_ ?_ ?_)
  · exact rfl
  · exact rfl
  intro V3 hnew hoo
  have hH2 := hide (And.intro (hHeld.1.only hoo (by omega)) (And.intro (hHeld.2.1.only hoo (by omega)) (And.intro (hoo.bel _ _ (by omega) hHeld.2.2.1) (hHeld.2.2.2.only hoo hno2))))
  replace hu := hu.only hoo (by omega)
  replace hq := hnew
  clear hHeld hnew hoo
  refine hK.out _ _ ?_ (fun hHeld => ?_)
  · exact hH2.out
  clear hK K
  clear hH2
  refine wpAnyH_ready (rs := [3]) (by kernel_rfl) (by simp) ?_
  refine AllReadyH.cons (o := ?oi69) ?hi69 (fun K hK => ?_) AllReadyH.nil
  case hi69 => (simp only [List.getElem?_toArray, List.getElem?_cons_zero, List.getElem?_cons_succ]; rfl)
  rw [if_pos (by rfl)]
  (with_reducible refine s_stR (w.heap.size + 1 + 1 + 1) _ r2 N p hu ?_ ?_ ?_ ?_)
  · exact rfl
  · exact rfl
  · exact rfl
  intro V4 hnew hoo
  have hH2 := hide (And.intro (hHeld.1.only hoo (by omega)) (And.intro (hHeld.2.1.only hoo (by omega)) (And.intro (hoo.bel _ _ (by omega) hHeld.2.2.1) (hHeld.2.2.2.only hoo hno3))))
  replace hq := hq.only hoo (by omega)
  replace hu := hnew
  clear hHeld hnew hoo
  refine hK.out _ _ ?_ (fun hHeld => ?_)
  · exact hH2.out
  clear hK K
  clear hH2
  refine wpAnyH_done (by kernel_rfl) ?_ _
  go_wp2_with (fail)
  refine bodyPost_ret (results_two_rows Tryd.results19 _ _ (w.heap.size + 1 + 1) (w.heap.size + 1 + 1 + 1) _ _ _ _ _ _ rfl hq Tryd.underlying24 rfl size_er rfl hu Tryd.underlying46 rfl size_R) rfl ?_
  exact ⟨r2, rfl, hHeld.2.2.2, fun x hx => .inr (hnew2 x hx), hHeld.2.2.1⟩
set_option maxRecDepth 20000 in
set_option maxHeartbeats 4000000 in
theorem rt_next {w : World} (s : E) (ok : s.Ok) {N p : Nat} {f : Nat → Nat} {r : RP} (h : RefAt w N p f r) (hmay : mayE s = true) (h1 : s.cd = 1) (h2 : s.hv = true) (hl : 1 ≤ s.lf) (h3 : inB p s.fr (burst s) = true) (h4 : inB p s.tt (burst s) = true) (h5 : ¬ burst s < s.lf) (h6 : s.nx ≠ 0) : Calls Tryd.prog 19 #[.agg s.cells, .agg (r.v N p)] w fun e w' => ∃ r' : RP, e = .returned (.tuple #[.agg (noOrd { onE s with pl := s.nx }).cells, .agg (r'.v N p)]) ∧ RefAt w' N p (wroteF f (s.tt - 2147483648) (cutF f (s.fr - 2147483648) (burst s))) r' ∧ (∀ x, r'.owns x → r.owns x ∨ w.heap.size ≤ x) ∧ Below w.heap.size w w' := by
  have HRf := hide h
  have hpf := h.few
  have hp1 : p ≤ 16384 := hpf.2.1
  have hNp := hide hpf.2.2
  clear h hpf
  have HC := hide (fun w => rcheck_any s w)
  rw [hmay, show chkE true = 0 from rfl] at HC
  have t1 : ((s.cd : Int) == 1) = true := (castq s.cd 1).trans (by simp [h1])
  obtain ⟨hn0, hn64, hnl⟩ := burst_le hl
  obtain ⟨n, hn⟩ : ∃ n, burst s = n := ⟨_, rfl⟩
  have hmin : min (s.lf : Int) 64 = (n : Int) := by rw [← hn]; unfold burst; split <;> omega
  rw [hn] at hn0 hn64 hnl
  have HIn : Hid (∀ x, x < 4294967296 → ∀ W, Calls Tryd.prog 36 #[.agg (r.v N p), .int .u32 (x : Nat), .int .u32 (n : Nat)] W fun e w' => e = .returned (.bool (inB p x n)) ∧ Below W.heap.size W w') := hide (fun x hx W => rin_any r N p x n hNp.out hp1 hx hn64 W)
  have okf := ok.fr
  have okt := ok.tt
  obtain ⟨hin1, hin2⟩ := inM_of h3
  obtain ⟨hin3, hin4⟩ := inM_of h4
  have hx1 : 2147483648 ≤ s.fr := (of_decide_eq_true h3).1
  have hx2 : 2147483648 ≤ s.tt := (of_decide_eq_true h4).1
  rw [hn] at hin2 hin4 h3 h4 ⊢
  obtain ⟨a1, ha1⟩ : ∃ a, s.fr - 2147483648 = a := ⟨_, rfl⟩
  obtain ⟨a2, ha2⟩ : ∃ a, s.tt - 2147483648 = a := ⟨_, rfl⟩
  have hav1 : (s.fr : Int) - 2147483648 = (a1 : Int) := by omega
  have hav2 : (s.tt : Int) - 2147483648 = (a2 : Int) := by omega
  have hl1 : a1 + n ≤ N := by rw [hNp.out]; omega
  have hl2 : a2 + n ≤ N := by rw [hNp.out]; omega
  have hN9 : N ≤ 67108864 := by have := hNp.out; omega
  rw [ha1, ha2]
  obtain ⟨F1, hF1⟩ : ∃ g, wroteF f a2 (cutF f a1 n) = g := ⟨_, rfl⟩
  rw [hF1]
  have HRd : Hid (∀ W, RefAt W N p f r → Calls Tryd.prog 39 #[.agg (r.v N p), .int .u32 (a1 : Nat), .int .i64 (n : Nat)] W fun e w' => e = .returned (.tuple #[.slice (some ⟨r.gB, a1, none⟩) n (r.cB - a1), .int .i64 0]) ∧ Below W.heap.size W w') := hide (fun W hR => rread_ex hR a1 n (by omega) hn0 hl1)
  have HWr : Hid (∀ W, RefAt W N p f r → Calls Tryd.prog 40 #[.agg (r.v N p), .int .u32 (a2 : Nat), .slice (some ⟨r.gB, a1, none⟩) n (r.cB - a1)] W fun e w' => (∃ r' : RP, e = .returned (.tuple #[.agg (r'.v N p), .int .i64 0]) ∧ RefAt w' N p F1 r' ∧ ∀ x, r'.owns x → W.heap.size ≤ x) ∧ Below W.heap.size W w') := hide (fun W hR => by
    have hc := hR.capB
    rw [← hF1]
    refine rwrite_ok hR a2 (by omega) (cutF f a1 n) (cutF_small hR.small _ _) n (cutF_len _ _ _) hn0 hl2 r.gB a1 (r.cB - a1) (by omega) (by omega) (fun j v hv => ?_) hR.bytes.lt
    have hj : j < n := by
      rcases Nat.lt_or_ge j n with e | e
      · exact e
      · rw [List.getElem?_eq_none (by rw [byteV_len, cutF_len]; exact e)] at hv; cases hv
    rw [byteV_at (by rw [cutF_len]; exact hj), cutF_at hj] at hv
    rw [hR.bytes.cell (j := a1 + j) (by omega)]
    exact hv)
  have e1 : ((s.fr : Int) + (n : Int)) % 4294967296 = ((m32 (s.fr + n) : Nat) : Int) := add_m32 _ _
  have e2 : ((s.tt : Int) + (n : Int)) % 4294967296 = ((m32 (s.tt + n) : Nat) : Int) := add_m32 _ _
  have e5 : ((s.mv : Int) + (n : Int)) % 4294967296 = ((m32 (s.mv + n) : Nat) : Int) := add_m32 _ _
  have e3 : ((s.lf : Int) - (n : Int)) = ((s.lf - n : Nat) : Int) := by omega
  have hlfb := ok.lf
  have e1n : (s.fr : Int) + (n : Int) = ((m32 (s.fr + n) : Nat) : Int) := by unfold m32; omega
  have e2n : (s.tt : Int) + (n : Int) = ((m32 (s.tt + n) : Nat) : Int) := by unfold m32; omega
  have e3m : ((s.lf : Int) - (n : Int)) % 4294967296 = ((s.lf - n : Nat) : Int) := by omega
  clear hin1 hin2 hin3 hin4 hx1 hx2 ha1 ha2 hF1
  have u1 : decide ((n : Int) < (s.lf : Int)) = false := by rw [hn] at h5; simp; omega
  have u1n : decide (n < s.lf) = false := by rw [hn] at h5; simp; omega
  have hak : s.ak = false := by
    cases hx : s.ak with
    | false => rfl
    | true => have := ((mayE_iff s).1 hmay).2.2.1 hx; omega
  rw [show noOrd { onE s with pl := s.nx } = (⟨1, s.hd, s.nx, s.st, m32 (s.mv + n), false, 0, 0, 0, 0, false⟩ : E) by (unfold noOrd onE; rw [hn, h1, hak])]
  have u2 : ((s.nx : Int) == 0) = false := (castq s.nx 0).trans (by simp [h6])
  clear h1 hl hn h5 h6 hak
  obtain ⟨sf, hsf⟩ : ∃ x : E, (⟨1, s.hd, s.nx, s.st, m32 (s.mv + n), false, 0, 0, 0, 0, false⟩ : E) = x := ⟨_, rfl⟩
  have HSF := hide hsf
  rw [show (⟨1, s.hd, s.nx, s.st, m32 (s.mv + n), false, 0, 0, 0, 0, false⟩ : E) = sf from hsf]
  clear hsf
  go_enter Tryd.func19, Tryd.ntmps19
  go_wp2_with (first | ((with_reducible refine bx_er w.heap.size s ?_ ?_ ?_); exact rfl; exact rfl; intro W hs hb hz) | ((with_reducible refine bx_R (w.heap.size + 1) r N p ?_ ?_ ?_); exact hz.out; exact rfl; intro W hm hb' hz'; replace hs := hs.bl (hz.out ▸ hb'); replace hb := hb.trans (hb'.mono (by omega)); replace hz := hz'; clear hb' hz') | ((with_reducible refine al_er (w.heap.size + 1 + 1) ?_ ?_); exact hz.out; intro W hq hb' hz'; replace hs := hs.bl (hz.out ▸ hb'); replace hm := hm.bl (hz.out ▸ hb'); replace hb := hb.trans (hb'.mono (by omega)); replace hz := hz'; clear hb' hz') | ((with_reducible refine al_Rz (w.heap.size + 1 + 1 + 1) ?_ ?_); exact hz.out; intro W hu hb' hz'; replace hs := hs.bl (hz.out ▸ hb'); replace hm := hm.bl (hz.out ▸ hb'); replace hq := hq.bl (hz.out ▸ hb'); replace hb := hb.trans (hb'.mono (by omega)); have hS4 : w.heap.size + 4 ≤ W.heap.size := (by have := hz'.out; omega); have fx := hs.cell; clear hb' hz' hz) | ((with_reducible refine ld_er w.heap.size _ hs ?_ ?_ ?_); exact rfl; exact rfl) | (go_at_call 15; (with_reducible refine (HC.out _).mono ?_); rintro e W ⟨rfl, hbc⟩; replace hs := hs.bl hbc; replace hm := hm.bl hbc; replace hq := hq.bl hbc; replace hu := hu.bl hbc; replace hS4 := Nat.le_trans hS4 hbc.size; replace fx := hs.cell; replace hb := below_bl rfl hb hbc; clear hbc) | ((with_reducible refine ld_Rw (w.heap.size + 1) _ N p hm ?_ ?_ ?_); exact rfl; exact rfl) | (go_at_call 36; (with_reducible refine (HIn.out _ (by assumption) _).mono ?_); rintro e W ⟨rfl, hbc⟩; replace hs := hs.bl hbc; replace hm := hm.bl hbc; replace hq := hq.bl hbc; replace hu := hu.bl hbc; replace hS4 := Nat.le_trans hS4 hbc.size; replace fx := hs.cell; replace hb := below_bl rfl hb hbc; clear hbc) | ((with_reducible refine ld_elf w.heap.size _ _ hs ?_ ?_); exact rfl) | ((with_reducible refine ld_efr w.heap.size _ _ hs ?_ ?_); exact rfl) | ((with_reducible refine ld_ett w.heap.size _ _ hs ?_ ?_); exact rfl) | ((with_reducible refine ld_emv w.heap.size _ _ hs ?_ ?_); exact rfl) | ((with_reducible refine ld_enx w.heap.size _ _ hs ?_ ?_); exact rfl) | ((with_reducible refine ld_ehd w.heap.size _ _ hs ?_ ?_); exact rfl) | ((with_reducible refine ld_est w.heap.size _ _ hs ?_ ?_); exact rfl) | ((with_reducible refine ld_epl w.heap.size _ _ hs ?_ ?_); exact rfl) | (go_at_call 39; (with_reducible refine (HRd.out _ (HRf.out.bl hb)).mono ?_); rintro e W ⟨rfl, hbc⟩; replace hs := hs.bl hbc; replace hm := hm.bl hbc; replace hq := hq.bl hbc; replace hu := hu.bl hbc; replace hS4 := Nat.le_trans hS4 hbc.size; replace fx := hs.cell; replace hb := below_bl rfl hb hbc; clear hbc) | ((with_reducible refine st_R (w.heap.size + 1) _ r2 N p hm ?_ ?_ ?_ ?_); exact rfl; exact rfl; exact rfl; intro W hnew hoo; replace hs := hs.only hoo (by omega); replace hq := hq.only hoo (by omega); replace hu := hu.only hoo (by omega); replace hRf2 := hRf2.only hoo hno1; replace hS4 := (show w.heap.size + 4 ≤ W.heap.size by rw [hoo.size]; exact hS4); replace fx := hs.cell; replace hb := hoo.bel _ _ (by omega) hb; replace hm := hnew; clear hnew hoo) | (go_at_call 40; (with_reducible refine (HWr.out _ (HRf.out.bl hb)).mono ?_); rintro e W7 ⟨⟨r2, rfl, hRf2, hnw⟩, hbc⟩; have hnew2 : ∀ x, r2.owns x → w.heap.size ≤ x := (fun x hx => by have := hnw x hx; omega); have hno0 : ¬ r2.owns w.heap.size := (fun e => absurd (hnw _ e) (by omega)); have hno1 : ¬ r2.owns (w.heap.size + 1) := (fun e => absurd (hnw _ e) (by omega)); have hno2 : ¬ r2.owns (w.heap.size + 1 + 1) := (fun e => absurd (hnw _ e) (by omega)); have hno3 : ¬ r2.owns (w.heap.size + 1 + 1 + 1) := (fun e => absurd (hnw _ e) (by omega)); clear hnw; replace hs := hs.bl hbc; replace hm := hm.bl hbc; replace hq := hq.bl hbc; replace hu := hu.bl hbc; replace hS4 := Nat.le_trans hS4 hbc.size; replace fx := hs.cell; replace hb := below_bl rfl hb hbc; clear hbc) | ((with_reducible refine st_emv w.heap.size _ (m32 (s.mv + n)) _ hs ?_ ?_ ?_); exact rfl; exact rfl; intro W8 hnew hoo; replace hm := hm.only hoo (by omega); replace hq := hq.only hoo (by omega); replace hu := hu.only hoo (by omega); replace hRf2 := hRf2.only hoo hno0; replace hS4 := (show w.heap.size + 4 ≤ W8.heap.size by rw [hoo.size]; exact hS4); replace hb := hoo.bel _ _ (by omega) hb; replace hs := hnew; replace fx := hs.cell; clear hnew hoo; obtain ⟨NT, hNT0⟩ : ∃ n, W8.heap.size = n := ⟨_, rfl⟩; have hNT := hide hNT0; have hNT4 : w.heap.size + 4 ≤ NT := hNT0 ▸ hS4; have hnoT : ¬ r2.owns NT := (fun e => absurd (hRf2.lt e) (by omega)); clear hNT0) | ((with_reducible refine al_er NT ?_ ?_); exact hNT.out; intro W ht hb' hz2; have hbc : Below W8.heap.size W8 W := (by rw [hNT.out]; exact hb'); replace hs := hs.bl hbc; replace hm := hm.bl hbc; replace hq := hq.bl hbc; replace hu := hu.bl hbc; replace hRf2 := hRf2.bl hbc; replace fx := hs.cell; replace hb := hb.trans (hb'.mono (by omega)); clear hb' hbc hz2) | ((with_reducible refine st_er NT _ (⟨1, s.hd, s.nx, s.st, m32 (s.mv + n), false, 0, 0, 0, 0, false⟩ : E) ht ?_ ?_ ?_); exact rfl; exact rfl; intro W hnew hoo; replace hs := hs.only hoo (by omega); replace hm := hm.only hoo (by omega); replace hq := hq.only hoo (by omega); replace hu := hu.only hoo (by omega); replace hRf2 := hRf2.only hoo hnoT; replace fx := hs.cell; replace hb := hoo.bel _ _ (by omega) hb; replace ht := hnew; clear hnew hoo))
  rw [HSF.out] at ht
  refine wp_region_held_drew (S := (fun V => RowAt V NT sf.cells 24 ∧ RowAt V (w.heap.size + 1) (r2.v N p) 46 ∧ Below w.heap.size w V ∧ RefAt V N p F1 r2)) (by kernel_rfl) ?_ (fun hHeld => ?_)
  · exact ⟨ht.dr, hm.dr, hb.drew, hRf2.drD⟩
  replace hq := hq.dr
  replace hu := hu.dr
  generalize World.drew _ = V at hHeld hq hu ⊢
  refine wpAnyH_take (i := 0) (oi := ?oi70) (v := .agg sf.cells) ?hi70 (by kernel_rfl) (by kernel_rfl) (by kernel_rfl) ?hQ70 ?hy70 (by assumption) ?rest70
  case hi70 => (simp only [List.getElem?_toArray, List.getElem?_cons_zero]; rfl)
  case hQ70 => exact fun _ _ _ h => h
  case hy70 => exact y_er NT sf (fun V hV => hV.1) rfl rfl
  simp only [Act.put, List.setIfInBounds_toArray, List.set_cons_zero, List.set_cons_succ]
  refine wpAnyH_take (i := 1) (oi := ?oi71) (v := .agg (r2.v N p)) ?hi71 (by kernel_rfl) (by kernel_rfl) (by kernel_rfl) ?hQ71 ?hy71 (by assumption) ?rest71
  case hi71 => (simp only [List.getElem?_toArray, List.getElem?_cons_zero, List.getElem?_cons_succ]; rfl)
  case hQ71 => exact fun _ _ _ h => h
  case hy71 => exact y_Rw (w.heap.size + 1) r2 N p (fun V hV => hV.2.1) rfl
  simp only [Act.put, List.setIfInBounds_toArray, List.set_cons_zero, List.set_cons_succ]
  refine wpAnyH_ready (rs := [2]) (by kernel_rfl) (by simp) ?_
  refine AllReadyH.cons (o := ?oi72) ?hi72 (fun K hK => ?_) AllReadyH.nil
  case hi72 => (simp only [List.getElem?_toArray, List.getElem?_cons_zero, List.getElem?_cons_succ]; rfl)
  rw [if_pos (by rfl)]
  (with_reducible refine s_er (w.heap.size + 1 + 1) _ sf hq ?_ ?_ ?_)
  · exact rfl
  · exact rfl
  intro V3 hnew hoo
  have hH2 := hide (And.intro (hHeld.1.only hoo (by omega)) (And.intro (hHeld.2.1.only hoo (by omega)) (And.intro (hoo.bel _ _ (by omega) hHeld.2.2.1) (hHeld.2.2.2.only hoo hno2))))
  replace hu := hu.only hoo (by omega)
  replace hq := hnew
  clear hHeld hnew hoo
  refine hK.out _ _ ?_ (fun hHeld => ?_)
  · exact hH2.out
  clear hK K
  clear hH2
  refine wpAnyH_ready (rs := [3]) (by kernel_rfl) (by simp) ?_
  refine AllReadyH.cons (o := ?oi73) ?hi73 (fun K hK => ?_) AllReadyH.nil
  case hi73 => (simp only [List.getElem?_toArray, List.getElem?_cons_zero, List.getElem?_cons_succ]; rfl)
  rw [if_pos (by rfl)]
  (with_reducible refine s_stR (w.heap.size + 1 + 1 + 1) _ r2 N p hu ?_ ?_ ?_ ?_)
  · exact rfl
  · exact rfl
  · exact rfl
  intro V4 hnew hoo
  have hH2 := hide (And.intro (hHeld.1.only hoo (by omega)) (And.intro (hHeld.2.1.only hoo (by omega)) (And.intro (hoo.bel _ _ (by omega) hHeld.2.2.1) (hHeld.2.2.2.only hoo hno3))))
  replace hq := hq.only hoo (by omega)
  replace hu := hnew
  clear hHeld hnew hoo
  refine hK.out _ _ ?_ (fun hHeld => ?_)
  · exact hH2.out
  clear hK K
  clear hH2
  refine wpAnyH_done (by kernel_rfl) ?_ _
  go_wp2_with (fail)
  refine bodyPost_ret (results_two_rows Tryd.results19 _ _ (w.heap.size + 1 + 1) (w.heap.size + 1 + 1 + 1) _ _ _ _ _ _ rfl hq Tryd.underlying24 rfl size_er rfl hu Tryd.underlying46 rfl size_R) rfl ?_
  exact ⟨r2, rfl, hHeld.2.2.2, fun x hx => .inr (hnew2 x hx), hHeld.2.2.1⟩
set_option maxRecDepth 20000 in
set_option maxHeartbeats 4000000 in
theorem rt_done {w : World} (s : E) (ok : s.Ok) {N p : Nat} {f : Nat → Nat} {r : RP} (h : RefAt w N p f r) (hmay : mayE s = true) (h1 : s.cd = 1) (h2 : s.hv = true) (hl : 1 ≤ s.lf) (h3 : inB p s.fr (burst s) = true) (h4 : inB p s.tt (burst s) = true) (h5 : ¬ burst s < s.lf) (h6 : s.nx = 0) : Calls Tryd.prog 19 #[.agg s.cells, .agg (r.v N p)] w fun e w' => ∃ r' : RP, e = .returned (.tuple #[.agg (endE (onE s) 2).cells, .agg (r'.v N p)]) ∧ RefAt w' N p (wroteF f (s.tt - 2147483648) (cutF f (s.fr - 2147483648) (burst s))) r' ∧ (∀ x, r'.owns x → r.owns x ∨ w.heap.size ≤ x) ∧ Below w.heap.size w w' := by
  have HRf := hide h
  have hpf := h.few
  have hp1 : p ≤ 16384 := hpf.2.1
  have hNp := hide hpf.2.2
  clear h hpf
  have HC := hide (fun w => rcheck_any s w)
  rw [hmay, show chkE true = 0 from rfl] at HC
  have t1 : ((s.cd : Int) == 1) = true := (castq s.cd 1).trans (by simp [h1])
  obtain ⟨hn0, hn64, hnl⟩ := burst_le hl
  obtain ⟨n, hn⟩ : ∃ n, burst s = n := ⟨_, rfl⟩
  have hmin : min (s.lf : Int) 64 = (n : Int) := by rw [← hn]; unfold burst; split <;> omega
  rw [hn] at hn0 hn64 hnl
  have HIn : Hid (∀ x, x < 4294967296 → ∀ W, Calls Tryd.prog 36 #[.agg (r.v N p), .int .u32 (x : Nat), .int .u32 (n : Nat)] W fun e w' => e = .returned (.bool (inB p x n)) ∧ Below W.heap.size W w') := hide (fun x hx W => rin_any r N p x n hNp.out hp1 hx hn64 W)
  have okf := ok.fr
  have okt := ok.tt
  obtain ⟨hin1, hin2⟩ := inM_of h3
  obtain ⟨hin3, hin4⟩ := inM_of h4
  have hx1 : 2147483648 ≤ s.fr := (of_decide_eq_true h3).1
  have hx2 : 2147483648 ≤ s.tt := (of_decide_eq_true h4).1
  rw [hn] at hin2 hin4 h3 h4 ⊢
  obtain ⟨a1, ha1⟩ : ∃ a, s.fr - 2147483648 = a := ⟨_, rfl⟩
  obtain ⟨a2, ha2⟩ : ∃ a, s.tt - 2147483648 = a := ⟨_, rfl⟩
  have hav1 : (s.fr : Int) - 2147483648 = (a1 : Int) := by omega
  have hav2 : (s.tt : Int) - 2147483648 = (a2 : Int) := by omega
  have hl1 : a1 + n ≤ N := by rw [hNp.out]; omega
  have hl2 : a2 + n ≤ N := by rw [hNp.out]; omega
  have hN9 : N ≤ 67108864 := by have := hNp.out; omega
  rw [ha1, ha2]
  obtain ⟨F1, hF1⟩ : ∃ g, wroteF f a2 (cutF f a1 n) = g := ⟨_, rfl⟩
  rw [hF1]
  have HRd : Hid (∀ W, RefAt W N p f r → Calls Tryd.prog 39 #[.agg (r.v N p), .int .u32 (a1 : Nat), .int .i64 (n : Nat)] W fun e w' => e = .returned (.tuple #[.slice (some ⟨r.gB, a1, none⟩) n (r.cB - a1), .int .i64 0]) ∧ Below W.heap.size W w') := hide (fun W hR => rread_ex hR a1 n (by omega) hn0 hl1)
  have HWr : Hid (∀ W, RefAt W N p f r → Calls Tryd.prog 40 #[.agg (r.v N p), .int .u32 (a2 : Nat), .slice (some ⟨r.gB, a1, none⟩) n (r.cB - a1)] W fun e w' => (∃ r' : RP, e = .returned (.tuple #[.agg (r'.v N p), .int .i64 0]) ∧ RefAt w' N p F1 r' ∧ ∀ x, r'.owns x → W.heap.size ≤ x) ∧ Below W.heap.size W w') := hide (fun W hR => by
    have hc := hR.capB
    rw [← hF1]
    refine rwrite_ok hR a2 (by omega) (cutF f a1 n) (cutF_small hR.small _ _) n (cutF_len _ _ _) hn0 hl2 r.gB a1 (r.cB - a1) (by omega) (by omega) (fun j v hv => ?_) hR.bytes.lt
    have hj : j < n := by
      rcases Nat.lt_or_ge j n with e | e
      · exact e
      · rw [List.getElem?_eq_none (by rw [byteV_len, cutF_len]; exact e)] at hv; cases hv
    rw [byteV_at (by rw [cutF_len]; exact hj), cutF_at hj] at hv
    rw [hR.bytes.cell (j := a1 + j) (by omega)]
    exact hv)
  have e1 : ((s.fr : Int) + (n : Int)) % 4294967296 = ((m32 (s.fr + n) : Nat) : Int) := add_m32 _ _
  have e2 : ((s.tt : Int) + (n : Int)) % 4294967296 = ((m32 (s.tt + n) : Nat) : Int) := add_m32 _ _
  have e5 : ((s.mv : Int) + (n : Int)) % 4294967296 = ((m32 (s.mv + n) : Nat) : Int) := add_m32 _ _
  have e3 : ((s.lf : Int) - (n : Int)) = ((s.lf - n : Nat) : Int) := by omega
  have hlfb := ok.lf
  have e1n : (s.fr : Int) + (n : Int) = ((m32 (s.fr + n) : Nat) : Int) := by unfold m32; omega
  have e2n : (s.tt : Int) + (n : Int) = ((m32 (s.tt + n) : Nat) : Int) := by unfold m32; omega
  have e3m : ((s.lf : Int) - (n : Int)) % 4294967296 = ((s.lf - n : Nat) : Int) := by omega
  clear hin1 hin2 hin3 hin4 hx1 hx2 ha1 ha2 hF1
  have u1 : decide ((n : Int) < (s.lf : Int)) = false := by rw [hn] at h5; simp; omega
  have u1n : decide (n < s.lf) = false := by rw [hn] at h5; simp; omega
  rw [show endE (onE s) 2 = (⟨2, s.hd, s.pl, s.st, m32 (s.mv + n), false, 0, 0, 0, 0, true⟩ : E) by (unfold endE noOrd onE; rw [hn])]
  have u2 : ((s.nx : Int) == 0) = true := (castq s.nx 0).trans (by simp [h6])
  clear h1 hl hn h5 h6
  obtain ⟨sf, hsf⟩ : ∃ x : E, (⟨2, s.hd, s.pl, s.st, m32 (s.mv + n), false, 0, 0, 0, 0, true⟩ : E) = x := ⟨_, rfl⟩
  have HSF := hide hsf
  rw [show (⟨2, s.hd, s.pl, s.st, m32 (s.mv + n), false, 0, 0, 0, 0, true⟩ : E) = sf from hsf]
  clear hsf
  go_enter Tryd.func19, Tryd.ntmps19
  go_wp2_with (first | ((with_reducible refine bx_er w.heap.size s ?_ ?_ ?_); exact rfl; exact rfl; intro W hs hb hz) | ((with_reducible refine bx_R (w.heap.size + 1) r N p ?_ ?_ ?_); exact hz.out; exact rfl; intro W hm hb' hz'; replace hs := hs.bl (hz.out ▸ hb'); replace hb := hb.trans (hb'.mono (by omega)); replace hz := hz'; clear hb' hz') | ((with_reducible refine al_er (w.heap.size + 1 + 1) ?_ ?_); exact hz.out; intro W hq hb' hz'; replace hs := hs.bl (hz.out ▸ hb'); replace hm := hm.bl (hz.out ▸ hb'); replace hb := hb.trans (hb'.mono (by omega)); replace hz := hz'; clear hb' hz') | ((with_reducible refine al_Rz (w.heap.size + 1 + 1 + 1) ?_ ?_); exact hz.out; intro W hu hb' hz'; replace hs := hs.bl (hz.out ▸ hb'); replace hm := hm.bl (hz.out ▸ hb'); replace hq := hq.bl (hz.out ▸ hb'); replace hb := hb.trans (hb'.mono (by omega)); have hS4 : w.heap.size + 4 ≤ W.heap.size := (by have := hz'.out; omega); have fx := hs.cell; clear hb' hz' hz) | ((with_reducible refine ld_er w.heap.size _ hs ?_ ?_ ?_); exact rfl; exact rfl) | (go_at_call 15; (with_reducible refine (HC.out _).mono ?_); rintro e W ⟨rfl, hbc⟩; replace hs := hs.bl hbc; replace hm := hm.bl hbc; replace hq := hq.bl hbc; replace hu := hu.bl hbc; replace hS4 := Nat.le_trans hS4 hbc.size; replace fx := hs.cell; replace hb := below_bl rfl hb hbc; clear hbc) | ((with_reducible refine ld_Rw (w.heap.size + 1) _ N p hm ?_ ?_ ?_); exact rfl; exact rfl) | (go_at_call 36; (with_reducible refine (HIn.out _ (by assumption) _).mono ?_); rintro e W ⟨rfl, hbc⟩; replace hs := hs.bl hbc; replace hm := hm.bl hbc; replace hq := hq.bl hbc; replace hu := hu.bl hbc; replace hS4 := Nat.le_trans hS4 hbc.size; replace fx := hs.cell; replace hb := below_bl rfl hb hbc; clear hbc) | ((with_reducible refine ld_elf w.heap.size _ _ hs ?_ ?_); exact rfl) | ((with_reducible refine ld_efr w.heap.size _ _ hs ?_ ?_); exact rfl) | ((with_reducible refine ld_ett w.heap.size _ _ hs ?_ ?_); exact rfl) | ((with_reducible refine ld_emv w.heap.size _ _ hs ?_ ?_); exact rfl) | ((with_reducible refine ld_enx w.heap.size _ _ hs ?_ ?_); exact rfl) | ((with_reducible refine ld_ehd w.heap.size _ _ hs ?_ ?_); exact rfl) | ((with_reducible refine ld_est w.heap.size _ _ hs ?_ ?_); exact rfl) | ((with_reducible refine ld_epl w.heap.size _ _ hs ?_ ?_); exact rfl) | (go_at_call 39; (with_reducible refine (HRd.out _ (HRf.out.bl hb)).mono ?_); rintro e W ⟨rfl, hbc⟩; replace hs := hs.bl hbc; replace hm := hm.bl hbc; replace hq := hq.bl hbc; replace hu := hu.bl hbc; replace hS4 := Nat.le_trans hS4 hbc.size; replace fx := hs.cell; replace hb := below_bl rfl hb hbc; clear hbc) | ((with_reducible refine st_R (w.heap.size + 1) _ r2 N p hm ?_ ?_ ?_ ?_); exact rfl; exact rfl; exact rfl; intro W hnew hoo; replace hs := hs.only hoo (by omega); replace hq := hq.only hoo (by omega); replace hu := hu.only hoo (by omega); replace hRf2 := hRf2.only hoo hno1; replace hS4 := (show w.heap.size + 4 ≤ W.heap.size by rw [hoo.size]; exact hS4); replace fx := hs.cell; replace hb := hoo.bel _ _ (by omega) hb; replace hm := hnew; clear hnew hoo) | (go_at_call 40; (with_reducible refine (HWr.out _ (HRf.out.bl hb)).mono ?_); rintro e W7 ⟨⟨r2, rfl, hRf2, hnw⟩, hbc⟩; have hnew2 : ∀ x, r2.owns x → w.heap.size ≤ x := (fun x hx => by have := hnw x hx; omega); have hno0 : ¬ r2.owns w.heap.size := (fun e => absurd (hnw _ e) (by omega)); have hno1 : ¬ r2.owns (w.heap.size + 1) := (fun e => absurd (hnw _ e) (by omega)); have hno2 : ¬ r2.owns (w.heap.size + 1 + 1) := (fun e => absurd (hnw _ e) (by omega)); have hno3 : ¬ r2.owns (w.heap.size + 1 + 1 + 1) := (fun e => absurd (hnw _ e) (by omega)); clear hnw; replace hs := hs.bl hbc; replace hm := hm.bl hbc; replace hq := hq.bl hbc; replace hu := hu.bl hbc; replace hS4 := Nat.le_trans hS4 hbc.size; replace fx := hs.cell; replace hb := below_bl rfl hb hbc; clear hbc) | ((with_reducible refine st_emv w.heap.size _ (m32 (s.mv + n)) _ hs ?_ ?_ ?_); exact rfl; exact rfl; intro W8 hnew hoo; replace hm := hm.only hoo (by omega); replace hq := hq.only hoo (by omega); replace hu := hu.only hoo (by omega); replace hRf2 := hRf2.only hoo hno0; replace hS4 := (show w.heap.size + 4 ≤ W8.heap.size by rw [hoo.size]; exact hS4); replace hb := hoo.bel _ _ (by omega) hb; replace hs := hnew; replace fx := hs.cell; clear hnew hoo; obtain ⟨NT, hNT0⟩ : ∃ n, W8.heap.size = n := ⟨_, rfl⟩; have hNT := hide hNT0; have hNT4 : w.heap.size + 4 ≤ NT := hNT0 ▸ hS4; have hnoT : ¬ r2.owns NT := (fun e => absurd (hRf2.lt e) (by omega)); clear hNT0) | ((with_reducible refine al_er NT ?_ ?_); exact hNT.out; intro W ht hb' hz2; have hbc : Below W8.heap.size W8 W := (by rw [hNT.out]; exact hb'); replace hs := hs.bl hbc; replace hm := hm.bl hbc; replace hq := hq.bl hbc; replace hu := hu.bl hbc; replace hRf2 := hRf2.bl hbc; replace fx := hs.cell; replace hb := hb.trans (hb'.mono (by omega)); clear hb' hbc hz2) | ((with_reducible refine st_er NT _ (⟨1, s.hd, s.nx, s.st, m32 (s.mv + n), false, 0, 0, 0, 0, false⟩ : E) ht ?_ ?_ ?_); exact rfl; exact rfl; intro W hnew hoo; replace hs := hs.only hoo (by omega); replace hm := hm.only hoo (by omega); replace hq := hq.only hoo (by omega); replace hu := hu.only hoo (by omega); replace hRf2 := hRf2.only hoo hnoT; replace fx := hs.cell; replace hb := hoo.bel _ _ (by omega) hb; replace ht := hnew; clear hnew hoo) | ((with_reducible refine st_er NT _ (⟨2, s.hd, s.pl, s.st, m32 (s.mv + n), false, 0, 0, 0, 0, true⟩ : E) ht ?_ ?_ ?_); exact rfl; exact rfl; intro W hnew hoo; replace hs := hs.only hoo (by omega); replace hm := hm.only hoo (by omega); replace hq := hq.only hoo (by omega); replace hu := hu.only hoo (by omega); replace hRf2 := hRf2.only hoo hnoT; replace fx := hs.cell; replace hb := hoo.bel _ _ (by omega) hb; replace ht := hnew; clear hnew hoo))
  rw [HSF.out] at ht
  refine wp_region_held_drew (S := (fun V => RowAt V NT sf.cells 24 ∧ RowAt V (w.heap.size + 1) (r2.v N p) 46 ∧ Below w.heap.size w V ∧ RefAt V N p F1 r2)) (by kernel_rfl) ?_ (fun hHeld => ?_)
  · exact ⟨ht.dr, hm.dr, hb.drew, hRf2.drD⟩
  replace hq := hq.dr
  replace hu := hu.dr
  generalize World.drew _ = V at hHeld hq hu ⊢
  refine wpAnyH_take (i := 0) (oi := ?oi74) (v := .agg sf.cells) ?hi74 (by kernel_rfl) (by kernel_rfl) (by kernel_rfl) ?hQ74 ?hy74 (by assumption) ?rest74
  case hi74 => (simp only [List.getElem?_toArray, List.getElem?_cons_zero]; rfl)
  case hQ74 => exact fun _ _ _ h => h
  case hy74 => exact y_er NT sf (fun V hV => hV.1) rfl rfl
  simp only [Act.put, List.setIfInBounds_toArray, List.set_cons_zero, List.set_cons_succ]
  refine wpAnyH_take (i := 1) (oi := ?oi75) (v := .agg (r2.v N p)) ?hi75 (by kernel_rfl) (by kernel_rfl) (by kernel_rfl) ?hQ75 ?hy75 (by assumption) ?rest75
  case hi75 => (simp only [List.getElem?_toArray, List.getElem?_cons_zero, List.getElem?_cons_succ]; rfl)
  case hQ75 => exact fun _ _ _ h => h
  case hy75 => exact y_Rw (w.heap.size + 1) r2 N p (fun V hV => hV.2.1) rfl
  simp only [Act.put, List.setIfInBounds_toArray, List.set_cons_zero, List.set_cons_succ]
  refine wpAnyH_ready (rs := [2]) (by kernel_rfl) (by simp) ?_
  refine AllReadyH.cons (o := ?oi76) ?hi76 (fun K hK => ?_) AllReadyH.nil
  case hi76 => (simp only [List.getElem?_toArray, List.getElem?_cons_zero, List.getElem?_cons_succ]; rfl)
  rw [if_pos (by rfl)]
  (with_reducible refine s_er (w.heap.size + 1 + 1) _ sf hq ?_ ?_ ?_)
  · exact rfl
  · exact rfl
  intro V3 hnew hoo
  have hH2 := hide (And.intro (hHeld.1.only hoo (by omega)) (And.intro (hHeld.2.1.only hoo (by omega)) (And.intro (hoo.bel _ _ (by omega) hHeld.2.2.1) (hHeld.2.2.2.only hoo hno2))))
  replace hu := hu.only hoo (by omega)
  replace hq := hnew
  clear hHeld hnew hoo
  refine hK.out _ _ ?_ (fun hHeld => ?_)
  · exact hH2.out
  clear hK K
  clear hH2
  refine wpAnyH_ready (rs := [3]) (by kernel_rfl) (by simp) ?_
  refine AllReadyH.cons (o := ?oi77) ?hi77 (fun K hK => ?_) AllReadyH.nil
  case hi77 => (simp only [List.getElem?_toArray, List.getElem?_cons_zero, List.getElem?_cons_succ]; rfl)
  rw [if_pos (by rfl)]
  (with_reducible refine s_stR (w.heap.size + 1 + 1 + 1) _ r2 N p hu ?_ ?_ ?_ ?_)
  · exact rfl
  · exact rfl
  · exact rfl
  intro V4 hnew hoo
  have hH2 := hide (And.intro (hHeld.1.only hoo (by omega)) (And.intro (hHeld.2.1.only hoo (by omega)) (And.intro (hoo.bel _ _ (by omega) hHeld.2.2.1) (hHeld.2.2.2.only hoo hno3))))
  replace hq := hq.only hoo (by omega)
  replace hu := hnew
  clear hHeld hnew hoo
  refine hK.out _ _ ?_ (fun hHeld => ?_)
  · exact hH2.out
  clear hK K
  clear hH2
  refine wpAnyH_done (by kernel_rfl) ?_ _
  go_wp2_with (fail)
  refine bodyPost_ret (results_two_rows Tryd.results19 _ _ (w.heap.size + 1 + 1) (w.heap.size + 1 + 1 + 1) _ _ _ _ _ _ rfl hq Tryd.underlying24 rfl size_er rfl hu Tryd.underlying46 rfl size_R) rfl ?_
  exact ⟨r2, rfl, hHeld.2.2.2, fun x hx => .inr (hnew2 x hx), hHeld.2.2.1⟩
end Go.Proofs.YtalcgipcephnnaaDoor
namespace Go.Proofs.YtalcgipcephnnaaDoor
open Go.RowKit
set_option linter.unusedVariables false
set_option linter.unusedSimpArgs false

theorem rtick_any {w : World} (s : E) (ok : s.Ok) {N p : Nat} {f : Nat → Nat} {r : RP} (h : RefAt w N p f r) : Calls Tryd.prog 19 #[.agg s.cells, .agg (r.v N p)] w fun e w' => ∃ r' : RP, e = .returned (.tuple #[.agg (tickE s f p).cells, .agg (r'.v N p)]) ∧ RefAt w' N p (tickF s f p) r' ∧ (∀ x, r'.owns x → r.owns x ∨ w.heap.size ≤ x) ∧ Below w.heap.size w w' := by
  cases hmay : mayE s with
  | false =>
    have hg : goes s = false := by unfold goes; rw [hmay]; rfl
    have e1 : tickE s f p = s := by unfold tickE; rw [hg]; exact if_neg (by decide)
    have e2 : tickF s f p = f := by unfold tickF; rw [hg]; exact if_neg (by rw [Bool.false_and]; decide)
    rw [e1, e2]
    exact rt_bad s ok h hmay
  | true =>
    by_cases h1 : s.cd = 1
    · have hg : goes s = true := by unfold goes; rw [hmay, h1]; rfl
      obtain ⟨m1, m2, m3, m4, m5⟩ := (mayE_iff s).1 hmay
      cases h2 : s.hv with
      | false =>
        have eE : tickE s f p = takeE s f p := by unfold tickE; rw [hg, if_pos rfl, h2, if_neg (by decide)]
        have eF : tickF s f p = f := by unfold tickF; rw [hg, h2]; exact if_neg (by decide)
        rw [eE, eF]
        by_cases h3 : s.st = 64
        · have e : takeE s f p = endE s 3 := by unfold takeE; rw [if_pos h3]
          rw [e]; exact rt_64 s ok h hmay h1 h2 h3
        have h3' : s.st < 64 := by omega
        by_cases h4 : s.pl % 4 = 0
        · cases h5 : inB p s.pl 16 with
          | false =>
            have e : takeE s f p = endE s 3 := by unfold takeE; rw [if_neg h3, if_pos (Or.inr h5)]
            rw [e]; exact rt_far s ok h hmay h1 h2 h3' h4 h5
          | true =>
            have hno : ¬ (s.pl % 4 ≠ 0 ∨ inB p s.pl 16 = false) := by
              rintro (e | e)
              · exact e h4
              · rw [h5] at e; cases e
            by_cases h6 : wordsF f (s.pl - 2147483648) 2 = 0 ∨ 65536 < wordsF f (s.pl - 2147483648) 2
            · have e : takeE s f p = endE { s with st := s.st + 1 } 3 := by
                unfold takeE; rw [if_neg h3, if_neg hno, words_2, if_pos h6]
              rw [e]; exact rt_words s ok h hmay h1 h2 h3' h4 h5 h6
            · have e : takeE s f p = { s with st := s.st + 1, hv := true, fr := wordsF f (s.pl - 2147483648) 0, tt := wordsF f (s.pl - 2147483648) 1, lf := wordsF f (s.pl - 2147483648) 2, nx := wordsF f (s.pl - 2147483648) 3 } := by
                unfold takeE; rw [if_neg h3, if_neg hno, words_2, if_neg h6, words_0, words_1, words_3]
              rw [e]; exact rt_take s ok h hmay h1 h2 h3' h4 h5 h6
        · have e : takeE s f p = endE s 3 := by unfold takeE; rw [if_neg h3, if_pos (Or.inl h4)]
          rw [e]; exact rt_odd s ok h hmay h1 h2 h3' h4
      | true =>
        have hl := (m4 h2).2.1
        have eE : tickE s f p = moveE s p := by unfold tickE; rw [hg, if_pos rfl, h2, if_pos rfl]
        have eF : tickF s f p = moveF s f p := by unfold tickF; rw [hg, h2]; exact if_pos (by decide)
        rw [eE, eF]
        cases hcan : canE s p with
        | false =>
          have e : moveE s p = endE s 3 := by unfold moveE; rw [if_pos hcan]
          have e2 : moveF s f p = f := by unfold moveF; rw [if_pos hcan]
          rw [e, e2]
          cases h3 : inB p s.fr (burst s) with
          | false => exact rt_mfrom s ok h hmay h1 h2 hl h3
          | true =>
            cases h4 : inB p s.tt (burst s) with
            | false => exact rt_mto s ok h hmay h1 h2 hl h3 h4
            | true => unfold canE at hcan; rw [h3, h4] at hcan; cases hcan
        | true =>
          have hc2 : inB p s.fr (burst s) = true ∧ inB p s.tt (burst s) = true := by unfold canE at hcan; simpa using hcan
          have e2 : moveF s f p = wroteF f (s.tt - 2147483648) (cutF f (s.fr - 2147483648) (burst s)) := by unfold moveF; rw [if_neg (by rw [hcan]; decide)]
          rw [e2]
          by_cases h5 : burst s < s.lf
          · have e : moveE s p = onE s := by unfold moveE; rw [if_neg (by rw [hcan]; decide), if_pos h5]
            rw [e]; exact rt_on s ok h hmay h1 h2 hl hc2.1 hc2.2 h5
          · by_cases h6 : s.nx = 0
            · have e : moveE s p = endE (onE s) 2 := by unfold moveE; rw [if_neg (by rw [hcan]; decide), if_neg h5, if_pos h6]
              rw [e]; exact rt_done s ok h hmay h1 h2 hl hc2.1 hc2.2 h5 h6
            · have e : moveE s p = noOrd { onE s with pl := s.nx } := by unfold moveE; rw [if_neg (by rw [hcan]; decide), if_neg h5, if_neg h6]
              rw [e]; exact rt_next s ok h hmay h1 h2 hl hc2.1 hc2.2 h5 h6
    · have hg : goes s = false := by
        unfold goes
        have : (s.cd == 1) = false := by simp [h1]
        rw [this, Bool.and_false]
      have e1 : tickE s f p = s := by unfold tickE; rw [hg]; exact if_neg (by decide)
      have e2 : tickF s f p = f := by unfold tickF; rw [hg]; exact if_neg (by rw [Bool.false_and]; decide)
      rw [e1, e2]
      exact rt_idle s ok h hmay h1
end Go.Proofs.YtalcgipcephnnaaDoor
