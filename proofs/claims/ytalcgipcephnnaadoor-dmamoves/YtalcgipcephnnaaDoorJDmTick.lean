/-
  What dma's Tick answers.
-/
import Derived.Test.YtalcgipcephnnaaDoorJDmMove
namespace Go.Proofs.YtalcgipcephnnaaDoor
open Go.RowKit
set_option linter.unusedVariables false
set_option linter.unusedSimpArgs false

theorem mayE_iff (s : E) : mayE s = true ↔ s.cd ≤ 3 ∧ s.st ≤ 64 ∧ (s.ak = true → s.cd = 2 ∨ s.cd = 3) ∧ (s.hv = true → s.cd = 1 ∧ 1 ≤ s.lf ∧ s.lf ≤ 65536) ∧ (s.hv = false → s.fr = 0 ∧ s.tt = 0 ∧ s.lf = 0 ∧ s.nx = 0) := by
  unfold mayE ordB same0 isOv
  cases s.ak <;> cases s.hv <;> simp [and_assoc]
theorem chk_true {s : E} (h : mayE s = true) : errP (chkE (mayE s)) = .nilIface := by rw [h]; rfl
theorem chk_false {s : E} (h : mayE s = false) : errP (chkE (mayE s)) = .iface 69 (.int .i64 1) := by rw [h]; rfl
attribute [local go_sem] E.at0 E.at1 E.at2 E.at3 E.at4 E.at5 E.at6 E.at7 E.at8 E.at9 E.at10
set_option maxHeartbeats 1000000 in
theorem tick_bad (s : E) (v : Value) (hm : mayE s = false) (w : World) :
    Calls Tryd.prog 18 #[.agg s.cells, v] w fun e w' => e = .returned (.agg s.cells) ∧ Below w.heap.size w w' := by
  have HC := hide (fun w => echeck_any s w)
  rw [chk_false hm] at HC
  go_enter Tryd.func18, Tryd.ntmps18
  go_wp2_with (first | ((with_reducible refine bx_ep w.heap.size s ?_ ?_ ?_); exact rfl; exact rfl; intro W hr hb hz) | ((with_reducible refine al_ep (w.heap.size + 1) ?_ ?_); exact hz.out; intro W hq hb' hz'; replace hr := hr.bl (hz.out ▸ hb'); replace hb := hb.trans (hb'.mono (by omega)); replace hz := hz'; have fx := hr.cell) | ((with_reducible refine ld_ep w.heap.size _ hr ?_ ?_ ?_); exact rfl; exact rfl) | (go_at_call 14; (with_reducible refine (HC.out _).mono ?_); rintro e W ⟨rfl, hbc⟩; replace hr := hr.bl hbc; replace hq := hq.bl hbc; replace fx := hr.cell; replace hb := below_bl rfl hb hbc) | ((with_reducible refine st_ep (w.heap.size + 1) _ s hq ?_ ?_ ?_); exact rfl; exact rfl; intro W hnew ho; replace hr := hr.only ho (by omega); replace hq := hnew; replace hb := ho.bel _ _ (by omega) hb))
  refine bodyPost_ret (results_cell_row Tryd.results18 _ _ (w.heap.size + 1) _ _ _ _ rfl hq Tryd.underlying29 rfl size_ep) rfl ?_
  exact ⟨rfl, hb⟩

set_option maxHeartbeats 1000000 in
theorem tick_idle (s : E) (v : Value) (hm : mayE s = true) (h1 : s.cd ≠ 1) (w : World) :
    Calls Tryd.prog 18 #[.agg s.cells, v] w fun e w' => e = .returned (.agg s.cells) ∧ Below w.heap.size w w' := by
  have HC := hide (fun w => echeck_any s w)
  rw [chk_true hm] at HC
  have t1 : ((s.cd : Int) == 1) = false := (castq s.cd 1).trans (by simp [h1])
  go_enter Tryd.func18, Tryd.ntmps18
  go_wp2_with (first | ((with_reducible refine bx_ep w.heap.size s ?_ ?_ ?_); exact rfl; exact rfl; intro W hr hb hz) | ((with_reducible refine al_ep (w.heap.size + 1) ?_ ?_); exact hz.out; intro W hq hb' hz'; replace hr := hr.bl (hz.out ▸ hb'); replace hb := hb.trans (hb'.mono (by omega)); replace hz := hz'; have fx := hr.cell) | ((with_reducible refine ld_ep w.heap.size _ hr ?_ ?_ ?_); exact rfl; exact rfl) | (go_at_call 14; (with_reducible refine (HC.out _).mono ?_); rintro e W ⟨rfl, hbc⟩; replace hr := hr.bl hbc; replace hq := hq.bl hbc; replace fx := hr.cell; replace hb := below_bl rfl hb hbc) | ((with_reducible refine st_ep (w.heap.size + 1) _ s hq ?_ ?_ ?_); exact rfl; exact rfl; intro W hnew ho; replace hr := hr.only ho (by omega); replace hq := hnew; replace hb := ho.bel _ _ (by omega) hb))
  refine bodyPost_ret (results_cell_row Tryd.results18 _ _ (w.heap.size + 1) _ _ _ _ rfl hq Tryd.underlying29 rfl size_ep) rfl ?_
  exact ⟨rfl, hb⟩

set_option maxHeartbeats 1000000 in
theorem tick_null (s : E) (hm : mayE s = true) (h1 : s.cd = 1) (w : World) :
    Calls Tryd.prog 18 #[.agg s.cells, .pointer none] w fun e w' => e = .returned (.agg s.cells) ∧ Below w.heap.size w w' := by
  have HC := hide (fun w => echeck_any s w)
  rw [chk_true hm] at HC
  have t1 : ((s.cd : Int) == 1) = true := (castq s.cd 1).trans (by simp [h1])
  go_enter Tryd.func18, Tryd.ntmps18
  go_wp2_with (first | ((with_reducible refine bx_ep w.heap.size s ?_ ?_ ?_); exact rfl; exact rfl; intro W hr hb hz) | ((with_reducible refine al_ep (w.heap.size + 1) ?_ ?_); exact hz.out; intro W hq hb' hz'; replace hr := hr.bl (hz.out ▸ hb'); replace hb := hb.trans (hb'.mono (by omega)); replace hz := hz'; have fx := hr.cell) | ((with_reducible refine ld_ep w.heap.size _ hr ?_ ?_ ?_); exact rfl; exact rfl) | (go_at_call 14; (with_reducible refine (HC.out _).mono ?_); rintro e W ⟨rfl, hbc⟩; replace hr := hr.bl hbc; replace hq := hq.bl hbc; replace fx := hr.cell; replace hb := below_bl rfl hb hbc) | ((with_reducible refine st_ep (w.heap.size + 1) _ s hq ?_ ?_ ?_); exact rfl; exact rfl; intro W hnew ho; replace hr := hr.only ho (by omega); replace hq := hnew; replace hb := ho.bel _ _ (by omega) hb))
  refine bodyPost_ret (results_cell_row Tryd.results18 _ _ (w.heap.size + 1) _ _ _ _ rfl hq Tryd.underlying29 rfl size_ep) rfl ?_
  exact ⟨rfl, hb⟩

theorem etick_nil (s : E) (w : World) : Calls Tryd.prog 18 #[.agg s.cells, .pointer none] w fun e w' => e = .returned (.agg s.cells) ∧ Below w.heap.size w w' := by
  cases hm : mayE s with
  | false => exact tick_bad s _ hm w
  | true =>
    by_cases h : s.cd = 1
    · exact tick_null s hm h w
    · exact tick_idle s _ hm h w
set_option maxHeartbeats 2000000 in
theorem tick_move {w : World} (s : E) (ok : s.Ok) {B b p c : Nat} {f : Nat → Nat} {O : Nat → Prop} (h : RamB w B b p f c O) (hA : AreasAt w) (hG : 1 < B) (hc : c ≤ 1000000) (hm : mayE s = true) (h1 : s.cd = 1) (h2 : s.hv = true) : Calls Tryd.prog 18 #[.agg s.cells, .pointer (some ⟨b, 0, none⟩)] w fun e w' => e = .returned (.agg (moveE s p).cells) ∧ ∃ O', RamB w' B b p (moveF s f p) (c + 1) O' ∧ Went B O O' w w' := by
  have hGw : 1 < w.heap.size := Nat.lt_of_lt_of_le hG h.base
  have hBw := h.base
  have HC := hide (fun w => echeck_any s w)
  rw [chk_true hm] at HC
  have hl := (((mayE_iff s).1 hm).2.2.2.1 h2).2.1
  have t1 : ((s.cd : Int) == 1) = true := (castq s.cd 1).trans (by simp [h1])
  obtain ⟨F1, hF1⟩ : ∃ g, moveF s f p = g := ⟨_, rfl⟩
  obtain ⟨v1, hv1⟩ : ∃ g, moveE s p = g := ⟨_, rfl⟩
  have HT : Hid (∀ W O1, RamB W B b p f c O1 → AreasAt W → Calls Tryd.prog 34 #[.agg s.cells, .pointer (some ⟨b, 0, none⟩)] W fun e w' => e = .returned (.agg v1.cells) ∧ ∃ O', RamB w' B b p F1 (c + 1) O' ∧ Went B O1 O' W w') := hide (fun W O1 hM hA => by rw [← hF1, ← hv1]; exact move_any s ok hM hA hG hl hc)
  rw [hF1, hv1]
  clear hF1 hv1 hl hm
  go_enter Tryd.func18, Tryd.ntmps18
  go_wp2_with (first | ((with_reducible refine bx_ep w.heap.size s ?_ ?_ ?_); exact rfl; exact rfl; intro W hr hb hz) | ((with_reducible refine al_ep (w.heap.size + 1) ?_ ?_); exact hz.out; intro W hq hb' hz'; replace hr := hr.bl (hz.out ▸ hb'); replace hb := hb.trans (hb'.mono (by omega)); have hM := h.bl hb; have hF := h.far 2; have hS : w.heap.size + 2 ≤ W.heap.size := (by have := hz'.out; omega); have hB : B ≤ W.heap.size := hM.base; replace hA := hA.bl hb; have hW := Went.of (O := O) hb h.base; clear h hb hz hz' hb'; have fx := hr.cell) | ((with_reducible refine ld_ep w.heap.size _ hr ?_ ?_ ?_); exact rfl; exact rfl) | (go_at_call 14; (with_reducible refine (HC.out _).mono ?_); rintro e W ⟨rfl, hbc⟩; replace hM := hM.bl hbc; replace hW := hW.bl hbc hB; replace hA := hA.bl hbc; replace hB := Nat.le_trans hB hbc.size; replace hS := Nat.le_trans hS hbc.size; replace hr := hr.bl hbc; replace hq := hq.bl hbc; have fx := hr.cell) | (go_at_call 34; (with_reducible refine (HT.out _ _ hM hA).mono ?_); rintro e W2 ⟨rfl, O2, hM2, hW2⟩; replace hr := hW2.row hr (hF.at 0 (by omega)); replace hq := hW2.row hq (hF.at 1 (by omega)); replace hA := hA.went hG hW2; replace hF := hF.went hW2 hS; replace hS := Nat.le_trans hS hW2.size; replace hW := hW.trans hW2; replace hB := Nat.le_trans hB hW2.size; replace hM := hM2; clear hM2 hW2) | ((with_reducible refine st_ep (w.heap.size + 1) _ v1 hq ?_ ?_ ?_); exact rfl; exact rfl; intro W hnew hoo; replace hM := hM.only hoo (hF.at 1 (by omega)); replace hW := hW.only hoo (by omega) (by omega); replace hq := hnew))
  refine bodyPost_ret (results_cell_row Tryd.results18 _ _ (w.heap.size + 1) _ _ _ _ rfl hq Tryd.underlying29 rfl size_ep) rfl ?_
  exact ⟨rfl, _, hM, hW⟩
set_option maxHeartbeats 2000000 in
theorem tick_take {w : World} (s : E) (ok : s.Ok) {B b p c : Nat} {f : Nat → Nat} {O : Nat → Prop} (h : RamB w B b p f c O) (hA : AreasAt w) (hG : 1 < B) (hm : mayE s = true) (h1 : s.cd = 1) (h2 : s.hv = false) : Calls Tryd.prog 18 #[.agg s.cells, .pointer (some ⟨b, 0, none⟩)] w fun e w' => e = .returned (.agg (takeE s f p).cells) ∧ ∃ O', RamB w' B b p (f) (c) O' ∧ Went B O O' w w' := by
  have hGw : 1 < w.heap.size := Nat.lt_of_lt_of_le hG h.base
  have hBw := h.base
  have HC := hide (fun w => echeck_any s w)
  rw [chk_true hm] at HC
  have hl := ((mayE_iff s).1 hm).2.1
  have t1 : ((s.cd : Int) == 1) = true := (castq s.cd 1).trans (by simp [h1])
  obtain ⟨v1, hv1⟩ : ∃ g, takeE s f p = g := ⟨_, rfl⟩
  have HT : Hid (∀ W O1, RamB W B b p f c O1 → AreasAt W → Calls Tryd.prog 35 #[.agg s.cells, .pointer (some ⟨b, 0, none⟩)] W fun e w' => e = .returned (.agg v1.cells) ∧ ∃ O', RamB w' B b p f (c) O' ∧ Went B O1 O' W w') := hide (fun W O1 hM hA => by rw [← hv1]; exact take_any s ok hM hA hG hl)
  rw [hv1]
  clear hv1 hl hm
  go_enter Tryd.func18, Tryd.ntmps18
  go_wp2_with (first | ((with_reducible refine bx_ep w.heap.size s ?_ ?_ ?_); exact rfl; exact rfl; intro W hr hb hz) | ((with_reducible refine al_ep (w.heap.size + 1) ?_ ?_); exact hz.out; intro W hq hb' hz'; replace hr := hr.bl (hz.out ▸ hb'); replace hb := hb.trans (hb'.mono (by omega)); have hM := h.bl hb; have hF := h.far 2; have hS : w.heap.size + 2 ≤ W.heap.size := (by have := hz'.out; omega); have hB : B ≤ W.heap.size := hM.base; replace hA := hA.bl hb; have hW := Went.of (O := O) hb h.base; clear h hb hz hz' hb'; have fx := hr.cell) | ((with_reducible refine ld_ep w.heap.size _ hr ?_ ?_ ?_); exact rfl; exact rfl) | (go_at_call 14; (with_reducible refine (HC.out _).mono ?_); rintro e W ⟨rfl, hbc⟩; replace hM := hM.bl hbc; replace hW := hW.bl hbc hB; replace hA := hA.bl hbc; replace hB := Nat.le_trans hB hbc.size; replace hS := Nat.le_trans hS hbc.size; replace hr := hr.bl hbc; replace hq := hq.bl hbc; have fx := hr.cell) | (go_at_call 35; (with_reducible refine (HT.out _ _ hM hA).mono ?_); rintro e W2 ⟨rfl, O2, hM2, hW2⟩; replace hr := hW2.row hr (hF.at 0 (by omega)); replace hq := hW2.row hq (hF.at 1 (by omega)); replace hA := hA.went hG hW2; replace hF := hF.went hW2 hS; replace hS := Nat.le_trans hS hW2.size; replace hW := hW.trans hW2; replace hB := Nat.le_trans hB hW2.size; replace hM := hM2; clear hM2 hW2) | ((with_reducible refine st_ep (w.heap.size + 1) _ v1 hq ?_ ?_ ?_); exact rfl; exact rfl; intro W hnew hoo; replace hM := hM.only hoo (hF.at 1 (by omega)); replace hW := hW.only hoo (by omega) (by omega); replace hq := hnew))
  refine bodyPost_ret (results_cell_row Tryd.results18 _ _ (w.heap.size + 1) _ _ _ _ rfl hq Tryd.underlying29 rfl size_ep) rfl ?_
  exact ⟨rfl, _, hM, hW⟩
theorem etick_any {w : World} (s : E) (ok : s.Ok) {B b p c : Nat} {f : Nat → Nat} {O : Nat → Prop} (h : RamB w B b p f c O) (hA : AreasAt w) (hG : 1 < B) (hc : c ≤ 1000000) : Calls Tryd.prog 18 #[.agg s.cells, .pointer (some ⟨b, 0, none⟩)] w fun e w' => e = .returned (.agg (tickE s f p).cells) ∧ ∃ O', RamB w' B b p (tickF s f p) (c + 1) O' ∧ Went B O O' w w' := by
  cases hg : goes s with
  | false =>
    have e1 : tickE s f p = s := by unfold tickE; rw [hg, if_neg (by decide)]
    have e2 : tickF s f p = f := by unfold tickF; rw [hg, Bool.false_and, if_neg (by decide)]
    rw [e1, e2]
    have hb : Calls Tryd.prog 18 #[.agg s.cells, .pointer (some ⟨b, 0, none⟩)] w fun e w' => e = .returned (.agg s.cells) ∧ Below w.heap.size w w' := by
      cases hm : mayE s with
      | false => exact tick_bad s _ hm w
      | true =>
        refine tick_idle s _ hm (fun e => ?_) w
        unfold goes at hg
        rw [hm, e] at hg
        cases hg
    refine hb.mono ?_
    rintro e w' ⟨rfl, h1⟩
    exact ⟨rfl, O, (h.bl h1).more (by omega), Went.of h1 h.base⟩
  | true =>
    have hgs : mayE s = true ∧ s.cd = 1 := by unfold goes at hg; simpa using hg
    cases h2 : s.hv with
    | true =>
      have e1 : tickE s f p = moveE s p := by unfold tickE; rw [hg, if_pos rfl, h2, if_pos rfl]
      have e2 : tickF s f p = moveF s f p := by unfold tickF; rw [hg, h2, if_pos (by decide)]
      rw [e1, e2]
      exact tick_move s ok h hA hG hc hgs.1 hgs.2 h2
    | false =>
      have e1 : tickE s f p = takeE s f p := by unfold tickE; rw [hg, if_pos rfl, h2, if_neg (by decide)]
      have e2 : tickF s f p = f := by unfold tickF; rw [hg, h2, if_neg (by decide)]
      rw [e1, e2]
      refine (tick_take s ok h hA hG hgs.1 hgs.2 h2).mono ?_
      rintro e w' ⟨rfl, O', h3, h4⟩
      exact ⟨rfl, O', h3.more (by omega), h4⟩
theorem m32_lt (x : Nat) : m32 x < 4294967296 := Nat.mod_lt _ (by decide)
theorem noOrd_ok {s : E} (ok : s.Ok) : (noOrd s).Ok := ⟨ok.cd, ok.hd, ok.pl, ok.st, ok.mv, (by show 0 < 4294967296; decide), (by show 0 < 4294967296; decide), (by show 0 < 4294967296; decide), (by show 0 < 4294967296; decide)⟩
theorem endE_ok {s : E} (ok : s.Ok) {c : Nat} (hc : c < 4294967296) : (endE s c).Ok := ⟨hc, ok.hd, ok.pl, ok.st, ok.mv, (by show 0 < 4294967296; decide), (by show 0 < 4294967296; decide), (by show 0 < 4294967296; decide), (by show 0 < 4294967296; decide)⟩
theorem onE_ok {s : E} (ok : s.Ok) : (onE s).Ok := ⟨ok.cd, ok.hd, ok.pl, ok.st, m32_lt _, m32_lt _, m32_lt _, by have := ok.lf; show s.lf - burst s < _; omega, ok.nx⟩
theorem stepped_ok {s : E} (ok : s.Ok) (h : s.st < 64) : ({ s with st := s.st + 1 } : E).Ok := ⟨ok.cd, ok.hd, ok.pl, by show s.st + 1 < _; omega, ok.mv, ok.fr, ok.tt, ok.lf, ok.nx⟩
theorem tickE_ok {s : E} (ok : s.Ok) {f : Nat → Nat} (hf : ∀ x, f x < 256) (p : Nat) : (tickE s f p).Ok := by
  have hN : ∀ a, numF f a 4 < 4294967296 := fun a => numF_lt hf a 4
  unfold tickE
  split
  · rename_i hg
    have hgs : mayE s = true ∧ s.cd = 1 := by unfold goes at hg; simpa using hg
    have hst := ((mayE_iff s).1 hgs.1).2.1
    split
    · unfold moveE
      split
      · exact endE_ok ok (by decide)
      · split
        · exact onE_ok ok
        · split
          · exact endE_ok (onE_ok ok) (by decide)
          · exact noOrd_ok ⟨(onE_ok ok).cd, (onE_ok ok).hd, ok.nx, (onE_ok ok).st, (onE_ok ok).mv, (onE_ok ok).fr, (onE_ok ok).tt, (onE_ok ok).lf, (onE_ok ok).nx⟩
    · unfold takeE
      split
      · exact endE_ok ok (by decide)
      · split
        · exact endE_ok ok (by decide)
        · split
          · exact endE_ok (stepped_ok ok (by omega)) (by decide)
          · exact ⟨ok.cd, ok.hd, ok.pl, by show s.st + 1 < _; omega, ok.mv, hN _, hN _, hN _, hN _⟩
  · exact ok
end Go.Proofs.YtalcgipcephnnaaDoor
