/-
  What nic's Send does, of any state.
-/
import Derived.Test.YtbggkoahofnnjaaDoorJK27
import Derived.Test.YtbggkoahofnnjaaDoorJK28
import Derived.Test.YtbggkoahofnnjaaDoorJK24
namespace Go.Proofs.YtbggkoahofnnjaaDoor
open Go.RowKit
set_option linter.unusedVariables false
set_option linter.unusedSimpArgs false

theorem send_none0 {p k : Nat} {f : Nat → Nat} {s : Nc} {acc : List (List Nat)} (h : ncNext p f s.p.q1.r = (0, none)) : ncSend p (k + 1) f s acc = (f, s.bw false, acc) := by
  unfold ncSend; rw [h]; rfl
theorem send_none1 {p k e : Nat} {f : Nat → Nat} {s : Nc} {acc : List (List Nat)} (h : ncNext p f s.p.q1.r = (e, none)) (he : e ≠ 0) : ncSend p (k + 1) f s acc = (f, s.fail, acc) := by
  unfold ncSend; rw [h]; exact if_neg he
theorem send_nofr {p k e : Nat} {f : Nat → Nat} {s : Nc} {acc : List (List Nat)} {c : Cn} {l : List Sg} (h : ncNext p f s.p.q1.r = (e, some (c, l))) (hf : ncFrame f l = none) : ncSend p (k + 1) f s acc = (f, s.fail, acc) := by
  unfold ncSend; rw [h]; simp only; rw [hf]
theorem send_go {p k e : Nat} {f f2 : Nat → Nat} {s : Nc} {p2 : V} {acc : List (List Nat)} {c : Cn} {l : List Sg} {b : List Nat} (h : ncNext p f s.p.q1.r = (e, some (c, l))) (hf : ncFrame f l = some b) (ha : ncAns p f s.p 1 c l [] = (f2, p2, true)) : ncSend p (k + 1) f s acc = ncSend p k f2 (s.pw p2) (acc ++ [b]) := by
  conv => lhs; unfold ncSend
  rw [h]; simp only; rw [hf]; simp only; rw [ha]; rfl
theorem send_end {p k e : Nat} {f f2 : Nat → Nat} {s : Nc} {p2 : V} {acc : List (List Nat)} {c : Cn} {l : List Sg} {b : List Nat} (h : ncNext p f s.p.q1.r = (e, some (c, l))) (hf : ncFrame f l = some b) (ha : ncAns p f s.p 1 c l [] = (f2, p2, false)) : ncSend p (k + 1) f s acc = (f2, s.pw p2, acc ++ [b]) := by
  conv => lhs; unfold ncSend
  rw [h]; simp only; rw [hf]; simp only; rw [ha]; rfl
theorem next_parts {p : Nat} {f : Nat → Nat} {r : Rg} {e : Nat} {c : Cn} {l : List Sg} (hf : ∀ x, f x < 256) (hr : r.Ok) (h : ncNext p f r = (e, some (c, l))) : PartsOk p l := by
  have hc := (next_same h hr).2.2
  unfold ncNext at h
  split at h
  · split at h
    · split at h
      · cases h
      · rename_i l' hw
        cases h
        exact walk_parts hf hc hw
    · cases h
  · cases h
theorem bytesO_nil (w : World) (O : Nat → Prop) : BytesO w O none [] := ⟨fun h => absurd h (by decide), fun y hy => by cases hy⟩
set_option maxRecDepth 20000 in
set_option maxHeartbeats 8000000 in
theorem nsend_go (s : Nc) (ok : s.Ok) {w : World} {B b p c : Nat} {f : Nat → Nat} {O : Nat → Prop} (h : RamB w B b p f c O) (hA : AreasAt w) (hG : 0 < B) (hc9 : c ≤ 700000000) (hbe : s.be = true) (hw : ncWorks s.p 1 = true) (Rf : Nat → Nat) (Rs : Nc) (Rl : List (List Nat)) (hR : ncSend p 4 f s [] = (Rf, Rs, Rl)) : Calls Tryd.prog 9 #[.agg s.c, .pointer (some ⟨b, 0, none⟩)] w fun e w' => ∃ ov ls O', e = .returned (.tuple #[.agg Rs.c, ov]) ∧ ls.map (·.1) = Rl ∧ RamB w' B b p Rf (c + 1200) O' ∧ Went B O O' w w' ∧ FrsAt w' w.heap.size O' ov ls := by
  have HWk : Hid (∀ W, Calls Tryd.prog 14 #[.agg s.p.cells, .int .i64 1] W fun e w' => e = .returned (.bool true) ∧ Below W.heap.size W w') := hide (fun W => by have := works_1 s.p ok.p W; rw [hw] at this; exact this)
  have HR := hide hR
  clear hR hw
  have hB0 := h.base
  have hGw : 0 < w.heap.size := Nat.lt_of_lt_of_le hG hB0
  have hA0 := hA
  clear hA
  go_enter Tryd.func9, Tryd.ntmps9
  have tb : (!s.be) = false := by rw [hbe]; rfl
  go_wp2_with (first | ((with_reducible refine bx_nc w.heap.size s ?_ ?_ ?_); exact rfl; exact rfl; intro W hr hb hz) | ((with_reducible refine al_nc (w.heap.size + 1) ?_ ?_); exact hz.out; intro W hq hb' hz'; replace hr := hr.bl (hz.out ▸ hb'); replace hb := hb.trans (hb'.mono (by omega)); replace hz := hz'; have hM := h.bl hb; have hW := Went.of (O := O) hb hB0; have hA := hA0.bl hb; have hF := h.far 2; have hS : w.heap.size + 2 ≤ W.heap.size := Nat.le_of_eq hz.out.symm; have hB : B ≤ W.heap.size := Nat.le_trans hB0 hb.size; clear hb hz hb' hz') | ((with_reducible refine ld_nbe w.heap.size s _ hr ?_ ?_ ?_); exact rfl; first | exact rfl | exact hw | (rw [hbe]; rfl)) | ((with_reducible refine ld_np w.heap.size s _ hr ?_ ?_ ?_); exact rfl; exact rfl) | (go_at_call 14; (with_reducible refine (HWk.out _).mono ?_); rintro e W ⟨rfl, hbc⟩; replace hM := hM.bl hbc; replace hW := hW.bl hbc hB; replace hA := hA.bl hbc; replace hB := Nat.le_trans hB hbc.size; replace hS := Nat.le_trans hS hbc.size; replace hr := hr.bl hbc; replace hq := hq.bl hbc))
  go_loopw [26, 6] (fun iv fv wr => ∃ (i : Nat) (fi : Nat → Nat) (si : Nc) (ls : List (List Nat × Value)) (Oi : Nat → Prop), i ≤ 4 ∧ iv = .int .i64 (i : Nat) ∧ ncSend p (4 - i) fi si (ls.map (·.1)) = (Rf, Rs, Rl) ∧ si.Ok ∧ RowAt wr w.heap.size si.c 43 ∧ RowAt wr (w.heap.size + 1) zeroNc.c 43 ∧ RamB wr B b p fi (c + 300 * i) Oi ∧ Went B O Oi w wr ∧ AreasAt wr ∧ FrsAt wr (w.heap.size + 2) Oi fv ls ∧ ls.length = i ∧ FarB Oi w.heap.size 2 ∧ w.heap.size + 2 ≤ wr.heap.size) (fun iv _ _ => 4 - (intOf iv).toNat)
  case atStart => exact ⟨0, f, s, [], _, by omega, rfl, HR.out, ok, hr, hq, hM.more (by omega), hW, hA, FrsAt.nil _ _ _, rfl, hF, hS⟩
  case round =>
    clear hr hq hM hW hA hF hS HR HWk hbe tb ok hB
    (try clear h hA0)
    obtain ⟨i, fi, si, ls, Oi, hi, rfl, hR, ok, hr, hq, hM, hW, hA, hY, hlen, hF, hS⟩ := hrel
    have hB : B ≤ _ := Nat.le_trans hB0 (Nat.le_trans (Nat.le_add_right _ 2) hS)
    by_cases h4 : i = 4
    · skip
      have hi4 : 4 - i = 0 := by omega
      rw [hi4] at hR
      have t1 : decide ((i : Int) < 4) = false := by simp; omega
      clear hi4
      obtain ⟨e1, e2, e3⟩ : fi = Rf ∧ si = Rs ∧ ls.map (·.1) = Rl := by cases hR; exact ⟨rfl, rfl, rfl⟩
      have HE := hide e3
      clear e3 hR
      subst e1 e2
      go_wp2_with (first | ((with_reducible refine ld_nc w.heap.size si hr ?_ ?_ ?_); exact rfl; exact rfl) | ((with_reducible refine st_nc (w.heap.size + 1) _ si hq ?_ ?_ ?_); exact rfl; exact rfl; intro W hnew ho; replace hY := hY.only ho hq (by decide) (by decide); replace hr := hr.only ho (by omega); replace hM := hM.only ho (hF.at 1 (by omega)); replace hA := hA.onlyR ho (by omega); replace hW := hW.only ho (by omega) (by omega); replace hS := (show w.heap.size + 2 ≤ W.heap.size by rw [ho.size]; exact hS); replace hB := (show B ≤ W.heap.size by rw [ho.size]; exact hB); replace hq := hnew; clear hnew ho))
      refine bodyPost_ret (results_cell_u Tryd.results9 _ _ (w.heap.size + 1) _ _ _ rfl hq Tryd.underlying43 rfl size_nc) rfl ?_
      exact ⟨_, ls, _, rfl, HE.out, hM.more (by omega), hW, hY.lower (by omega)⟩
    · have hi4 : 4 - i = (3 - i) + 1 := by omega
      rw [hi4] at hR
      have t1 : decide ((i : Int) < 4) = true := by simp; omega
      clear hi4
      rcases hnx : ncNext p fi si.p.q1.r with ⟨en, _ | ⟨cn, ps⟩⟩
      · by_cases he : en = 0
        · subst he
          rw [send_none0 hnx] at hR
          have HN : Hid (∀ W Ox, RamB W B b p fi (c + 300 * i) Ox → AreasAt W → Calls Tryd.prog 16 #[.agg si.p.q1.r.cells, .pointer (some ⟨b, 0, none⟩)] W fun e w' => e = .returned (.tuple #[.agg (zeroCn.c nilS), .bool false, .nilIface]) ∧ ∃ O', RamB w' B b p fi (c + 300 * i) O' ∧ Went B Ox O' W w') := hide (fun W Ox hM hA => (nnext_any si.p.q1.r ok.p.q1 hM hA hG).mono (by
            rintro e w' ⟨O', h1, h2, ⟨h3, rfl⟩ | ⟨cn', ps', lv, h3, h4, rfl, h5, h6⟩⟩
            · rw [hnx]; exact ⟨rfl, O', h1, h2⟩
            · rw [hnx] at h3; cases h3))
          have hq3 : fi = Rf ∧ si.bw false = Rs ∧ ls.map (·.1) = Rl := by cases hR; exact ⟨rfl, rfl, rfl⟩
          obtain ⟨e1, e2, e3⟩ := hq3
          have HE := hide e3
          clear e3 hR
          subst e1 e2
          clear hnx
          go_wp2_with (first | ((with_reducible refine ld_nr1 w.heap.size si _ hr ?_ ?_ ?_); exact rfl; exact rfl) | (go_at_call 16; (with_reducible refine (HN.out _ _ hM hA).mono ?_); rintro e W2 ⟨rfl, O2, hM2, hW2⟩; replace hr := hW2.row hr (hF.at 0 (by omega)); replace hq := hW2.row hq (hF.at 1 (by omega)); replace hY := hY.wentX hW2; replace hA := hA.wentR hG hW2; replace hF := hF.went hW2 hS; replace hS := Nat.le_trans hS hW2.size; replace hW := hW.trans hW2; replace hB := Nat.le_trans hB hW2.size; replace hM := hM2; clear hM2 hW2; obtain ⟨NX, hNX0⟩ : ∃ n, W2.heap.size = n := ⟨_, rfl⟩; have hNX := hide hNX0; have hNXx : w.heap.size + 2 ≤ NX := hNX0 ▸ hS; clear hNX0) | ((with_reducible refine al_cn NX ?_ ?_); exact hNX.out; intro W hg hb' hz'; have hbc := hNX.out ▸ hb'; have hgO := (fun e => absurd (hM.lt NX e) (by rw [hNX.out]; omega) : ¬ O2 NX); replace hM := hM.bl hbc; replace hW := hW.bl hbc hB; replace hA := hA.bl hbc; replace hB := Nat.le_trans hB hbc.size; replace hS := Nat.le_trans hS hbc.size; replace hr := hr.bl hbc; replace hq := hq.bl hbc; replace hY := hY.bl hbc; clear hb' hbc) | ((with_reducible refine st_cn NX _ _ zeroCn nilS rfl hg ?_ ?_ ?_); exact rfl; exact rfl; intro W hnew ho; have hOLD := hg; replace hY := hY.only ho hOLD (by decide) (by decide); replace hr := hr.only ho (by omega); replace hq := hq.only ho (by omega); replace hM := hM.only ho hgO; replace hA := hA.onlyR ho (by omega); replace hW := hW.only ho (by omega) (by omega); replace hS := (show w.heap.size + 2 ≤ W.heap.size by rw [ho.size]; exact hS); replace hB := (show B ≤ W.heap.size by rw [ho.size]; exact hB); replace hg := hnew; clear hnew ho; clear hOLD) | ((with_reducible refine st_nbe w.heap.size si false _ hr ?_ ?_ ?_); exact rfl; exact rfl; intro W hnew ho; replace hY := hY.only ho hr (by decide) (by decide); replace hg := hg.only ho (by omega); replace hq := hq.only ho (by omega); replace hM := hM.only ho (hF.at 0 (by omega)); replace hA := hA.onlyR ho (by omega); replace hW := hW.only ho (by omega) (by omega); replace hS := (show w.heap.size + 2 ≤ W.heap.size by rw [ho.size]; exact hS); replace hB := (show B ≤ W.heap.size by rw [ho.size]; exact hB); replace hr := hnew; clear hnew ho) | ((with_reducible refine ld_nc w.heap.size (si.bw false) hr ?_ ?_ ?_); exact rfl; exact rfl) | ((with_reducible refine st_nc (w.heap.size + 1) _ (si.bw false) hq ?_ ?_ ?_); exact rfl; exact rfl; intro W hnew ho; replace hY := hY.only ho hq (by decide) (by decide); replace hg := hg.only ho (by omega); replace hr := hr.only ho (by omega); replace hM := hM.only ho (hF.at 1 (by omega)); replace hA := hA.onlyR ho (by omega); replace hW := hW.only ho (by omega) (by omega); replace hS := (show w.heap.size + 2 ≤ W.heap.size by rw [ho.size]; exact hS); replace hB := (show B ≤ W.heap.size by rw [ho.size]; exact hB); replace hq := hnew; clear hnew ho))
          refine bodyPost_ret (results_cell_u Tryd.results9 _ _ (w.heap.size + 1) _ _ _ rfl hq Tryd.underlying43 rfl size_nc) rfl ?_
          exact ⟨_, ls, _, rfl, HE.out, hM.more (by omega), hW, hY.lower (by omega)⟩
        · rw [send_none1 hnx he] at hR
          have hE : ∃ z : Int, errR en = .iface 59 (.int .i64 z) := ⟨_, by unfold errR; rw [if_neg he]⟩
          obtain ⟨z, hz⟩ := hE
          have HN : Hid (∀ W Ox, RamB W B b p fi (c + 300 * i) Ox → AreasAt W → Calls Tryd.prog 16 #[.agg si.p.q1.r.cells, .pointer (some ⟨b, 0, none⟩)] W fun e w' => e = .returned (.tuple #[.agg (zeroCn.c nilS), .bool false, .iface 59 (.int .i64 z)]) ∧ ∃ O', RamB w' B b p fi (c + 300 * i) O' ∧ Went B Ox O' W w') := hide (fun W Ox hM hA => (nnext_any si.p.q1.r ok.p.q1 hM hA hG).mono (by
            rintro e w' ⟨O', h1, h2, ⟨h3, rfl⟩ | ⟨cn', ps', lv, h3, h4, rfl, h5, h6⟩⟩
            · rw [hnx]; simp only; rw [hz]; exact ⟨rfl, O', h1, h2⟩
            · rw [hnx] at h3; cases h3))
          have HFl := hide (fun w => failed_any si ok.p w)
          generalize si.fail = sf at *
          have hq3 : fi = Rf ∧ sf = Rs ∧ ls.map (·.1) = Rl := by cases hR; exact ⟨rfl, rfl, rfl⟩
          obtain ⟨e1, e2, e3⟩ := hq3
          have HE := hide e3
          clear e3 hR
          subst e1 e2
          clear hnx hz
          go_wp2_with (first | ((with_reducible refine ld_nr1 w.heap.size si _ hr ?_ ?_ ?_); exact rfl; exact rfl) | (go_at_call 16; (with_reducible refine (HN.out _ _ hM hA).mono ?_); rintro e W2 ⟨rfl, O2, hM2, hW2⟩; replace hr := hW2.row hr (hF.at 0 (by omega)); replace hq := hW2.row hq (hF.at 1 (by omega)); replace hY := hY.wentX hW2; replace hA := hA.wentR hG hW2; replace hF := hF.went hW2 hS; replace hS := Nat.le_trans hS hW2.size; replace hW := hW.trans hW2; replace hB := Nat.le_trans hB hW2.size; replace hM := hM2; clear hM2 hW2; obtain ⟨NX, hNX0⟩ : ∃ n, W2.heap.size = n := ⟨_, rfl⟩; have hNX := hide hNX0; have hNXx : w.heap.size + 2 ≤ NX := hNX0 ▸ hS; clear hNX0) | ((with_reducible refine al_cn NX ?_ ?_); exact hNX.out; intro W hg hb' hz'; have hbc := hNX.out ▸ hb'; have hgO := (fun e => absurd (hM.lt NX e) (by rw [hNX.out]; omega) : ¬ O2 NX); replace hM := hM.bl hbc; replace hW := hW.bl hbc hB; replace hA := hA.bl hbc; replace hB := Nat.le_trans hB hbc.size; replace hS := Nat.le_trans hS hbc.size; replace hr := hr.bl hbc; replace hq := hq.bl hbc; replace hY := hY.bl hbc; clear hb' hbc) | ((with_reducible refine st_cn NX _ _ zeroCn nilS rfl hg ?_ ?_ ?_); exact rfl; exact rfl; intro W hnew ho; have hOLD := hg; replace hY := hY.only ho hOLD (by decide) (by decide); replace hr := hr.only ho (by omega); replace hq := hq.only ho (by omega); replace hM := hM.only ho hgO; replace hA := hA.onlyR ho (by omega); replace hW := hW.only ho (by omega) (by omega); replace hS := (show w.heap.size + 2 ≤ W.heap.size by rw [ho.size]; exact hS); replace hB := (show B ≤ W.heap.size by rw [ho.size]; exact hB); replace hg := hnew; clear hnew ho; clear hOLD) | ((with_reducible refine ld_nc w.heap.size si hr ?_ ?_ ?_); exact rfl; exact rfl) | (go_at_call 17; (with_reducible refine (HFl.out _).mono ?_); rintro e W ⟨rfl, hbc⟩; replace hM := hM.bl hbc; replace hW := hW.bl hbc hB; replace hA := hA.bl hbc; replace hB := Nat.le_trans hB hbc.size; replace hS := Nat.le_trans hS hbc.size; replace hr := hr.bl hbc; replace hq := hq.bl hbc; replace hY := hY.bl hbc; replace hg := hg.bl hbc) | ((with_reducible refine st_nc (w.heap.size + 1) _ sf hq ?_ ?_ ?_); exact rfl; exact rfl; intro W hnew ho; replace hY := hY.only ho hq (by decide) (by decide); replace hg := hg.only ho (by omega); replace hr := hr.only ho (by omega); replace hM := hM.only ho (hF.at 1 (by omega)); replace hA := hA.onlyR ho (by omega); replace hW := hW.only ho (by omega) (by omega); replace hS := (show w.heap.size + 2 ≤ W.heap.size by rw [ho.size]; exact hS); replace hB := (show B ≤ W.heap.size by rw [ho.size]; exact hB); replace hq := hnew; clear hnew ho))
          refine bodyPost_ret (results_cell_u Tryd.results9 _ _ (w.heap.size + 1) _ _ _ rfl hq Tryd.underlying43 rfl size_nc) rfl ?_
          exact ⟨_, ls, _, rfl, HE.out, hM.more (by omega), hW, hY.lower (by omega)⟩
      · have hP : PartsOk p ps := next_parts hM.small ok.p.q1 hnx
        have hcnr := (next_same hnx ok.p.q1).2.1
        cases hfr : ncFrame fi ps with
        | none =>
          rw [send_nofr hnx hfr] at hR
          have HN : Hid (∀ W Ox, RamB W B b p fi (c + 300 * i) Ox → AreasAt W → Calls Tryd.prog 16 #[.agg si.p.q1.r.cells, .pointer (some ⟨b, 0, none⟩)] W fun e w' => ∃ lv, e = .returned (.tuple #[.agg (cn.c lv), .bool true, .nilIface]) ∧ ∃ O', RamB w' B b p fi (c + 300 * i) O' ∧ Went B Ox O' W w' ∧ w'.ownsRow W.heap.size 104 3 lv ps.length (segL ps) ∧ ∀ g, lv.ownBlock = some g → ¬ O' g) := hide (fun W Ox hM hA => (nnext_any si.p.q1.r ok.p.q1 hM hA hG).mono (by
            rintro e w' ⟨O', h1, h2, ⟨h3, rfl⟩ | ⟨cn', ps', lv, h3, h4, rfl, h5, h6⟩⟩
            · rw [hnx] at h3; cases h3
            · rw [hnx] at h3; cases h3; exact ⟨lv, rfl, O', h1, h2, h5, h6⟩))
          have HFm : Hid (∀ W Ox lv, RamB W B b p fi (c + 300 * i) Ox → AreasAt W → W.ownsRow (w.heap.size + 2) 104 3 lv ps.length (segL ps) → Calls Tryd.prog 24 #[.agg (cn.c lv), .pointer (some ⟨b, 0, none⟩)] W fun e w' => e = .returned (.tuple #[.slice none 0 0, .iface 59 (.int .i64 2)]) ∧ ∃ O', RamB w' B b p fi (c + 300 * i) O' ∧ Went B Ox O' W w') := hide (fun W Ox lv hM hA hL => nframe_no cn ps hM hA hG hL hP hfr)
          have HFl := hide (fun w => failed_any si ok.p w)
          generalize si.fail = sf at *
          have hq3 : fi = Rf ∧ sf = Rs ∧ ls.map (·.1) = Rl := by cases hR; exact ⟨rfl, rfl, rfl⟩
          obtain ⟨e1, e2, e3⟩ := hq3
          have HE := hide e3
          clear e3 hR
          subst e1 e2
          clear hnx hfr hP hcnr
          go_wp2_with (first | ((with_reducible refine ld_nr1 w.heap.size si _ hr ?_ ?_ ?_); exact rfl; exact rfl) | (go_at_call 16; (with_reducible refine (HN.out _ _ hM hA).mono ?_); rintro e W2 ⟨lv, rfl, O2, hM2, hW2, hl0, hln⟩; (have hl := own_lower2 hl0 (show w.heap.size + 2 ≤ _ by omega)); clear hl0; replace hr := hW2.row hr (hF.at 0 (by omega)); replace hq := hW2.row hq (hF.at 1 (by omega)); replace hY := hY.wentX hW2; replace hA := hA.wentR hG hW2; replace hF := hF.went hW2 hS; replace hS := Nat.le_trans hS hW2.size; replace hW := hW.trans hW2; replace hB := Nat.le_trans hB hW2.size; replace hM := hM2; clear hM2 hW2; obtain ⟨NX, hNX0⟩ : ∃ n, W2.heap.size = n := ⟨_, rfl⟩; have hNX := hide hNX0; have hNXx : w.heap.size + 2 ≤ NX := hNX0 ▸ hS; clear hNX0) | ((with_reducible refine al_cn NX ?_ ?_); exact hNX.out; intro W hg hb' hz'; have hbc := hNX.out ▸ hb'; have hgO := (fun e => absurd (hM.lt NX e) (by rw [hNX.out]; omega) : ¬ O2 NX); replace hM := hM.bl hbc; replace hW := hW.bl hbc hB; replace hA := hA.bl hbc; replace hB := Nat.le_trans hB hbc.size; replace hS := Nat.le_trans hS hbc.size; replace hr := hr.bl hbc; replace hq := hq.bl hbc; replace hl := own_bel hl hbc; replace hY := hY.bl hbc; clear hb' hbc) | ((with_reducible refine st_cn NX _ _ cn lv (own_one hl) hg ?_ ?_ ?_); exact rfl; exact rfl; intro W hnew ho; have hOLD := hg; replace hY := hY.only ho hOLD (by decide) (by decide); replace hr := hr.only ho (by omega); replace hq := hq.only ho (by omega); replace hl := own_only hl ho (fun e => absurd (own_ty hl e hOLD) (by decide)); replace hM := hM.only ho hgO; replace hA := hA.onlyR ho (by omega); replace hW := hW.only ho (by omega) (by omega); replace hS := (show w.heap.size + 2 ≤ W.heap.size by rw [ho.size]; exact hS); replace hB := (show B ≤ W.heap.size by rw [ho.size]; exact hB); replace hg := hnew; clear hnew ho; clear hOLD) | ((with_reducible refine ld_cn NX cn lv hg ?_ ?_ ?_); exact rfl; exact rfl) | (go_at_call 24; (with_reducible refine (HFm.out _ _ _ hM hA hl).mono ?_); rintro e W2 ⟨rfl, O2, hM2, hW2⟩; (have hNO := hW2.no hg.lt hgO); replace hg := hW2.row hg hgO; (replace hgO := hNO); clear hNO; replace hr := hW2.row hr (hF.at 0 (by omega)); replace hq := hW2.row hq (hF.at 1 (by omega)); (have hNX := fun g e => hW2.no (hl.lt g e).2 (hln g e)); replace hl := own_went hl hW2 hln; (replace hln := hNX); clear hNX; replace hY := hY.wentX hW2; replace hA := hA.wentR hG hW2; replace hF := hF.went hW2 hS; replace hS := Nat.le_trans hS hW2.size; replace hW := hW.trans hW2; replace hB := Nat.le_trans hB hW2.size; replace hM := hM2; clear hM2 hW2) | ((with_reducible refine ld_nc w.heap.size si hr ?_ ?_ ?_); exact rfl; exact rfl) | (go_at_call 17; (with_reducible refine (HFl.out _).mono ?_); rintro e W ⟨rfl, hbc⟩; replace hM := hM.bl hbc; replace hW := hW.bl hbc hB; replace hA := hA.bl hbc; replace hB := Nat.le_trans hB hbc.size; replace hS := Nat.le_trans hS hbc.size; replace hr := hr.bl hbc; replace hq := hq.bl hbc; replace hl := own_bel hl hbc; replace hY := hY.bl hbc; replace hg := hg.bl hbc) | ((with_reducible refine st_nc (w.heap.size + 1) _ sf hq ?_ ?_ ?_); exact rfl; exact rfl; intro W hnew ho; replace hY := hY.only ho hq (by decide) (by decide); replace hg := hg.only ho (by omega); replace hr := hr.only ho (by omega); replace hl := own_only hl ho (fun e => absurd (hl.lt _ e) (by omega)); replace hM := hM.only ho (hF.at 1 (by omega)); replace hA := hA.onlyR ho (by omega); replace hW := hW.only ho (by omega) (by omega); replace hS := (show w.heap.size + 2 ≤ W.heap.size by rw [ho.size]; exact hS); replace hB := (show B ≤ W.heap.size by rw [ho.size]; exact hB); replace hq := hnew; clear hnew ho))
          refine bodyPost_ret (results_cell_u Tryd.results9 _ _ (w.heap.size + 1) _ _ _ rfl hq Tryd.underlying43 rfl size_nc) rfl ?_
          exact ⟨_, ls, _, rfl, HE.out, hM.more (by omega), hW, hY.lower (by omega)⟩
        | some fr =>
          rcases ha : ncAns p fi si.p 1 cn ps [] with ⟨f2, p2, okb⟩
          cases okb with
          | false =>
            rw [send_end hnx hfr ha] at hR
            obtain ⟨s2, hs2⟩ : ∃ x, si.pw p2 = x := ⟨_, rfl⟩
            have HSI := hide hs2
            rw [hs2] at hR
            have HN : Hid (∀ W Ox, RamB W B b p fi (c + 300 * i) Ox → AreasAt W → Calls Tryd.prog 16 #[.agg si.p.q1.r.cells, .pointer (some ⟨b, 0, none⟩)] W fun e w' => ∃ lv, e = .returned (.tuple #[.agg (cn.c lv), .bool true, .nilIface]) ∧ ∃ O', RamB w' B b p fi (c + 300 * i) O' ∧ Went B Ox O' W w' ∧ w'.ownsRow W.heap.size 104 3 lv ps.length (segL ps) ∧ ∀ g, lv.ownBlock = some g → ¬ O' g) := hide (fun W Ox hM hA => (nnext_any si.p.q1.r ok.p.q1 hM hA hG).mono (by
              rintro e w' ⟨O', h1, h2, ⟨h3, rfl⟩ | ⟨cn', ps', lv, h3, h4, rfl, h5, h6⟩⟩
              · rw [hnx] at h3; cases h3
              · rw [hnx] at h3; cases h3; exact ⟨lv, rfl, O', h1, h2, h5, h6⟩))
            have HFm : Hid (∀ W Ox lv, RamB W B b p fi (c + 300 * i) Ox → AreasAt W → W.ownsRow (w.heap.size + 2) 104 3 lv ps.length (segL ps) → Calls Tryd.prog 24 #[.agg (cn.c lv), .pointer (some ⟨b, 0, none⟩)] W fun e w' => ∃ dv, e = .returned (.tuple #[dv, .nilIface]) ∧ ∃ O', RamB w' B b p fi (c + 300 * i) O' ∧ Went B Ox O' W w' ∧ FrAt w' W.heap.size O' fr dv) := hide (fun W Ox lv hM hA hL => nframe_ok cn ps hM hA hG hL hP fr hfr)
            have HAn : Hid (∀ W Ox lv, RamB W B b p fi (c + 300 * i) Ox → AreasAt W → W.ownsRow (w.heap.size + 2) 104 3 lv ps.length (segL ps) → Calls Tryd.prog 20 #[.agg si.p.cells, .int .i64 1, .pointer (some ⟨b, 0, none⟩), .agg (cn.c lv), .slice none 0 0] W fun e w' => e = .returned (.tuple #[.agg p2.cells, .bool false]) ∧ ∃ O', RamB w' B b p f2 (c + 300 * (i + 1)) O' ∧ Went B Ox O' W w') := hide (fun W Ox lv hM hA hL => by
              have := nans_any1 si.p ok.p cn hcnr ps (by have := hP.len; omega) (fun g hg => (hP.ok g hg).1) [] 0 none hM hA hG hL (bytesO_nil W Ox) (Nat.le_refl _) (by decide) (by decide) (by omega)
              rw [ha] at this
              exact this.mono (by
                rintro e w' ⟨rfl, O', h1, h2⟩
                exact ⟨rfl, O', h1.more (by have := hP.len; omega), h2⟩))
            have hq3 : f2 = Rf ∧ s2 = Rs ∧ ls.map (·.1) ++ [fr] = Rl := by cases hR; exact ⟨rfl, rfl, rfl⟩
            obtain ⟨e1, e2, e3⟩ := hq3
            have HE := hide e3
            have HE2 := hide e2
            clear e2 e3 hR
            subst e1
            clear hs2
            clear hnx hfr ha hP hcnr
            go_wp2_with (first | ((with_reducible refine ld_nr1 w.heap.size si _ hr ?_ ?_ ?_); exact rfl; exact rfl) | (go_at_call 16; (with_reducible refine (HN.out _ _ hM hA).mono ?_); rintro e W2 ⟨lv, rfl, O2, hM2, hW2, hl0, hln⟩; (have hl := own_lower2 hl0 (show w.heap.size + 2 ≤ _ by omega)); clear hl0; replace hr := hW2.row hr (hF.at 0 (by omega)); replace hq := hW2.row hq (hF.at 1 (by omega)); replace hY := hY.wentX hW2; replace hA := hA.wentR hG hW2; replace hF := hF.went hW2 hS; replace hS := Nat.le_trans hS hW2.size; replace hW := hW.trans hW2; replace hB := Nat.le_trans hB hW2.size; replace hM := hM2; clear hM2 hW2; obtain ⟨NX, hNX0⟩ : ∃ n, W2.heap.size = n := ⟨_, rfl⟩; have hNX := hide hNX0; have hNXx : w.heap.size + 2 ≤ NX := hNX0 ▸ hS; clear hNX0) | ((with_reducible refine al_cn NX ?_ ?_); exact hNX.out; intro W hg hb' hz'; have hbc := hNX.out ▸ hb'; have hgO := (fun e => absurd (hM.lt NX e) (by rw [hNX.out]; omega) : ¬ O2 NX); replace hM := hM.bl hbc; replace hW := hW.bl hbc hB; replace hA := hA.bl hbc; replace hB := Nat.le_trans hB hbc.size; replace hS := Nat.le_trans hS hbc.size; replace hr := hr.bl hbc; replace hq := hq.bl hbc; replace hl := own_bel hl hbc; replace hY := hY.bl hbc; clear hb' hbc) | ((with_reducible refine st_cn NX _ _ cn lv (own_one hl) hg ?_ ?_ ?_); exact rfl; exact rfl; intro W hnew ho; have hOLD := hg; replace hY := hY.only ho hOLD (by decide) (by decide); replace hr := hr.only ho (by omega); replace hq := hq.only ho (by omega); replace hl := own_only hl ho (fun e => absurd (own_ty hl e hOLD) (by decide)); replace hM := hM.only ho hgO; replace hA := hA.onlyR ho (by omega); replace hW := hW.only ho (by omega) (by omega); replace hS := (show w.heap.size + 2 ≤ W.heap.size by rw [ho.size]; exact hS); replace hB := (show B ≤ W.heap.size by rw [ho.size]; exact hB); replace hg := hnew; clear hnew ho; clear hOLD) | ((with_reducible refine ld_cn NX cn lv hg ?_ ?_ ?_); exact rfl; exact rfl) | (go_at_call 24; (with_reducible refine (HFm.out _ _ _ hM hA hl).mono ?_); rintro e W2 ⟨dv, rfl, O2, hM2, hW2, hfd0⟩; (have hfd := hfd0.lower (show w.heap.size + 2 ≤ _ by omega)); clear hfd0; (have hNO := hW2.no hg.lt hgO); replace hg := hW2.row hg hgO; (replace hgO := hNO); clear hNO; replace hr := hW2.row hr (hF.at 0 (by omega)); replace hq := hW2.row hq (hF.at 1 (by omega)); (have hNX := fun g e => hW2.no (hl.lt g e).2 (hln g e)); replace hl := own_went hl hW2 hln; (replace hln := hNX); clear hNX; replace hY := hY.wentX hW2; replace hA := hA.wentR hG hW2; replace hF := hF.went hW2 hS; replace hS := Nat.le_trans hS hW2.size; replace hW := hW.trans hW2; replace hB := Nat.le_trans hB hW2.size; replace hM := hM2; clear hM2 hW2; (have hfd' := hfd); (obtain ⟨dg, dcap, dall, rfl, _⟩ := hfd'); (obtain ⟨NY, hNY0⟩ : ∃ n, W2.heap.size = n := ⟨_, rfl⟩); (have hNY := hide hNY0); (have hNYx : w.heap.size + 2 ≤ NY := hNY0 ▸ hS); (have hNXY : NX < NY := hNY0 ▸ hg.lt); clear hNY0) | ((with_reducible refine bs_fr NY ?_ (some ⟨dg, 12, none⟩) (dall.length - 12) (dcap - 12) ?_ ?_); exact hNY.out; exact rfl; intro W hns hb' hz'; (have hbc := hNY.out ▸ hb'); replace hM := hM.bl hbc; replace hW := hW.bl hbc hB; replace hA := hA.bl hbc; replace hB := Nat.le_trans hB hbc.size; replace hS := Nat.le_trans hS hbc.size; replace hr := hr.bl hbc; replace hq := hq.bl hbc; replace hl := own_bel hl hbc; replace hY := hY.bl hbc; replace hfd := hfd.bl hbc; replace hg := hg.bl hbc; clear hb' hz' hbc) | ((with_reducible refine app_fr hY hfd NY hns (by omega) (by omega) hM.lt ?_ ?_ ?_); exact rfl; exact rfl; intro W5 ov5 hY5 hg5; (have hav : ∀ g, Value.ownBlock _ = some g → w.heap.size + 2 ≤ g := fun g e => (hY.row.lt g e).1); replace hr := grow_row hr hg5 (fun e => absurd (hav _ e) (by omega)); replace hq := grow_row hq hg5 (fun e => absurd (hav _ e) (by omega)); replace hg := grow_row hg hg5 (fun e => absurd (own_ty hY.row e hg) (by decide)); (replace hl := own_at hl (fun g e => hg5.block g (hl.lt g e).2 (fun k => by (obtain ⟨cs, hrs⟩ := hY.rowT g k.symm); exact absurd (own_ty hl e hrs) (by decide)))); replace hA := hA.growR hg5 (fun g e => by have := hav g e; omega); replace hM := grow_ram hM hg5 hY.far; (replace hW := grow_went hW hg5 (fun g e => by have := hav g e; omega) (by omega)); replace hS := Nat.le_trans hS hg5.size; replace hB := Nat.le_trans hB hg5.size; clear hfd hns hav; replace hY := hY5; clear hY5 hg5) | ((with_reducible refine ld_np w.heap.size si _ hr ?_ ?_ ?_); exact rfl; exact rfl) | (go_at_call 20; (with_reducible refine (HAn.out _ _ _ hM hA hl).mono ?_); rintro e W2 ⟨rfl, O2, hM2, hW2⟩; (have hNO := hW2.no hg.lt hgO); replace hg := hW2.row hg hgO; (replace hgO := hNO); clear hNO; replace hr := hW2.row hr (hF.at 0 (by omega)); replace hq := hW2.row hq (hF.at 1 (by omega)); (have hNX := fun g e => hW2.no (hl.lt g e).2 (hln g e)); replace hl := own_went hl hW2 hln; (replace hln := hNX); clear hNX; replace hY := hY.wentX hW2; replace hA := hA.wentR hG hW2; replace hF := hF.went hW2 hS; replace hS := Nat.le_trans hS hW2.size; replace hW := hW.trans hW2; replace hB := Nat.le_trans hB hW2.size; replace hM := hM2; clear hM2 hW2) | ((with_reducible refine st_np w.heap.size si p2 _ hr ?_ ?_ ?_); exact rfl; exact rfl; intro W hnew ho; rw [HSI.out] at hnew; replace hY := hY.only ho hr (by decide) (by decide); replace hg := hg.only ho (by omega); replace hq := hq.only ho (by omega); replace hl := own_only hl ho (fun e => absurd (hl.lt _ e) (by omega)); replace hM := hM.only ho (hF.at 0 (by omega)); replace hA := hA.onlyR ho (by omega); replace hW := hW.only ho (by omega) (by omega); replace hS := (show w.heap.size + 2 ≤ W.heap.size by rw [ho.size]; exact hS); replace hB := (show B ≤ W.heap.size by rw [ho.size]; exact hB); replace hr := hnew; clear hnew ho) | ((with_reducible refine ld_nc w.heap.size s2 hr ?_ ?_ ?_); exact rfl; exact rfl) | ((with_reducible refine st_nc (w.heap.size + 1) _ s2 hq ?_ ?_ ?_); exact rfl; exact rfl; intro W hnew ho; replace hY := hY.only ho hq (by decide) (by decide); replace hg := hg.only ho (by omega); replace hr := hr.only ho (by omega); replace hl := own_only hl ho (fun e => absurd (hl.lt _ e) (by omega)); replace hM := hM.only ho (hF.at 1 (by omega)); replace hA := hA.onlyR ho (by omega); replace hW := hW.only ho (by omega) (by omega); replace hS := (show w.heap.size + 2 ≤ W.heap.size by rw [ho.size]; exact hS); replace hB := (show B ≤ W.heap.size by rw [ho.size]; exact hB); replace hq := hnew; clear hnew ho))
            refine bodyPost_ret (results_cell_u Tryd.results9 _ _ (w.heap.size + 1) _ _ _ rfl hq Tryd.underlying43 rfl size_nc) rfl ?_
            exact ⟨_, ls ++ [(fr, (.slice (some ⟨dg, 12, none⟩) (dall.length - 12) (dcap - 12)))], _, by rw [← HE2.out]; rfl, by rw [List.map_append]; exact HE.out, hM.more (by omega), hW, hY.lower (by omega)⟩
          | true =>
            rw [send_go hnx hfr ha] at hR
            obtain ⟨s2, hs2⟩ : ∃ x, si.pw p2 = x := ⟨_, rfl⟩
            have HSI := hide hs2
            rw [hs2] at hR
            have hok2 : s2.Ok := hs2 ▸ (⟨by have := (ans_keep (p := p) (f := fi) (q := 1) (c := cn) (l := ps) (b := []) (by decide) ok.p hcnr).1; rw [ha] at this; exact this, ok.lo⟩ : (si.pw p2).Ok)
            have HN : Hid (∀ W Ox, RamB W B b p fi (c + 300 * i) Ox → AreasAt W → Calls Tryd.prog 16 #[.agg si.p.q1.r.cells, .pointer (some ⟨b, 0, none⟩)] W fun e w' => ∃ lv, e = .returned (.tuple #[.agg (cn.c lv), .bool true, .nilIface]) ∧ ∃ O', RamB w' B b p fi (c + 300 * i) O' ∧ Went B Ox O' W w' ∧ w'.ownsRow W.heap.size 104 3 lv ps.length (segL ps) ∧ ∀ g, lv.ownBlock = some g → ¬ O' g) := hide (fun W Ox hM hA => (nnext_any si.p.q1.r ok.p.q1 hM hA hG).mono (by
              rintro e w' ⟨O', h1, h2, ⟨h3, rfl⟩ | ⟨cn', ps', lv, h3, h4, rfl, h5, h6⟩⟩
              · rw [hnx] at h3; cases h3
              · rw [hnx] at h3; cases h3; exact ⟨lv, rfl, O', h1, h2, h5, h6⟩))
            have HFm : Hid (∀ W Ox lv, RamB W B b p fi (c + 300 * i) Ox → AreasAt W → W.ownsRow (w.heap.size + 2) 104 3 lv ps.length (segL ps) → Calls Tryd.prog 24 #[.agg (cn.c lv), .pointer (some ⟨b, 0, none⟩)] W fun e w' => ∃ dv, e = .returned (.tuple #[dv, .nilIface]) ∧ ∃ O', RamB w' B b p fi (c + 300 * i) O' ∧ Went B Ox O' W w' ∧ FrAt w' W.heap.size O' fr dv) := hide (fun W Ox lv hM hA hL => nframe_ok cn ps hM hA hG hL hP fr hfr)
            have HAn : Hid (∀ W Ox lv, RamB W B b p fi (c + 300 * i) Ox → AreasAt W → W.ownsRow (w.heap.size + 2) 104 3 lv ps.length (segL ps) → Calls Tryd.prog 20 #[.agg si.p.cells, .int .i64 1, .pointer (some ⟨b, 0, none⟩), .agg (cn.c lv), .slice none 0 0] W fun e w' => e = .returned (.tuple #[.agg p2.cells, .bool true]) ∧ ∃ O', RamB w' B b p f2 (c + 300 * (i + 1)) O' ∧ Went B Ox O' W w') := hide (fun W Ox lv hM hA hL => by
              have := nans_any1 si.p ok.p cn hcnr ps (by have := hP.len; omega) (fun g hg => (hP.ok g hg).1) [] 0 none hM hA hG hL (bytesO_nil W Ox) (Nat.le_refl _) (by decide) (by decide) (by omega)
              rw [ha] at this
              exact this.mono (by
                rintro e w' ⟨rfl, O', h1, h2⟩
                exact ⟨rfl, O', h1.more (by have := hP.len; omega), h2⟩))
            have HR2 := hide hR
            have HOK := hide hok2
            clear hnx hfr ha hP hcnr hR hok2 hs2
            go_wp2_with (first | ((with_reducible refine ld_nr1 w.heap.size si _ hr ?_ ?_ ?_); exact rfl; exact rfl) | (go_at_call 16; (with_reducible refine (HN.out _ _ hM hA).mono ?_); rintro e W2 ⟨lv, rfl, O2, hM2, hW2, hl0, hln⟩; (have hl := own_lower2 hl0 (show w.heap.size + 2 ≤ _ by omega)); clear hl0; replace hr := hW2.row hr (hF.at 0 (by omega)); replace hq := hW2.row hq (hF.at 1 (by omega)); replace hY := hY.wentX hW2; replace hA := hA.wentR hG hW2; replace hF := hF.went hW2 hS; replace hS := Nat.le_trans hS hW2.size; replace hW := hW.trans hW2; replace hB := Nat.le_trans hB hW2.size; replace hM := hM2; clear hM2 hW2; obtain ⟨NX, hNX0⟩ : ∃ n, W2.heap.size = n := ⟨_, rfl⟩; have hNX := hide hNX0; have hNXx : w.heap.size + 2 ≤ NX := hNX0 ▸ hS; clear hNX0) | ((with_reducible refine al_cn NX ?_ ?_); exact hNX.out; intro W hg hb' hz'; have hbc := hNX.out ▸ hb'; have hgO := (fun e => absurd (hM.lt NX e) (by rw [hNX.out]; omega) : ¬ O2 NX); replace hM := hM.bl hbc; replace hW := hW.bl hbc hB; replace hA := hA.bl hbc; replace hB := Nat.le_trans hB hbc.size; replace hS := Nat.le_trans hS hbc.size; replace hr := hr.bl hbc; replace hq := hq.bl hbc; replace hl := own_bel hl hbc; replace hY := hY.bl hbc; clear hb' hbc) | ((with_reducible refine st_cn NX _ _ cn lv (own_one hl) hg ?_ ?_ ?_); exact rfl; exact rfl; intro W hnew ho; have hOLD := hg; replace hY := hY.only ho hOLD (by decide) (by decide); replace hr := hr.only ho (by omega); replace hq := hq.only ho (by omega); replace hl := own_only hl ho (fun e => absurd (own_ty hl e hOLD) (by decide)); replace hM := hM.only ho hgO; replace hA := hA.onlyR ho (by omega); replace hW := hW.only ho (by omega) (by omega); replace hS := (show w.heap.size + 2 ≤ W.heap.size by rw [ho.size]; exact hS); replace hB := (show B ≤ W.heap.size by rw [ho.size]; exact hB); replace hg := hnew; clear hnew ho; clear hOLD) | ((with_reducible refine ld_cn NX cn lv hg ?_ ?_ ?_); exact rfl; exact rfl) | (go_at_call 24; (with_reducible refine (HFm.out _ _ _ hM hA hl).mono ?_); rintro e W2 ⟨dv, rfl, O2, hM2, hW2, hfd0⟩; (have hfd := hfd0.lower (show w.heap.size + 2 ≤ _ by omega)); clear hfd0; (have hNO := hW2.no hg.lt hgO); replace hg := hW2.row hg hgO; (replace hgO := hNO); clear hNO; replace hr := hW2.row hr (hF.at 0 (by omega)); replace hq := hW2.row hq (hF.at 1 (by omega)); (have hNX := fun g e => hW2.no (hl.lt g e).2 (hln g e)); replace hl := own_went hl hW2 hln; (replace hln := hNX); clear hNX; replace hY := hY.wentX hW2; replace hA := hA.wentR hG hW2; replace hF := hF.went hW2 hS; replace hS := Nat.le_trans hS hW2.size; replace hW := hW.trans hW2; replace hB := Nat.le_trans hB hW2.size; replace hM := hM2; clear hM2 hW2; (have hfd' := hfd); (obtain ⟨dg, dcap, dall, rfl, _⟩ := hfd'); (obtain ⟨NY, hNY0⟩ : ∃ n, W2.heap.size = n := ⟨_, rfl⟩); (have hNY := hide hNY0); (have hNYx : w.heap.size + 2 ≤ NY := hNY0 ▸ hS); (have hNXY : NX < NY := hNY0 ▸ hg.lt); clear hNY0) | ((with_reducible refine bs_fr NY ?_ (some ⟨dg, 12, none⟩) (dall.length - 12) (dcap - 12) ?_ ?_); exact hNY.out; exact rfl; intro W hns hb' hz'; (have hbc := hNY.out ▸ hb'); replace hM := hM.bl hbc; replace hW := hW.bl hbc hB; replace hA := hA.bl hbc; replace hB := Nat.le_trans hB hbc.size; replace hS := Nat.le_trans hS hbc.size; replace hr := hr.bl hbc; replace hq := hq.bl hbc; replace hl := own_bel hl hbc; replace hY := hY.bl hbc; replace hfd := hfd.bl hbc; replace hg := hg.bl hbc; clear hb' hz' hbc) | ((with_reducible refine app_fr hY hfd NY hns (by omega) (by omega) hM.lt ?_ ?_ ?_); exact rfl; exact rfl; intro W5 ov5 hY5 hg5; (have hav : ∀ g, Value.ownBlock _ = some g → w.heap.size + 2 ≤ g := fun g e => (hY.row.lt g e).1); replace hr := grow_row hr hg5 (fun e => absurd (hav _ e) (by omega)); replace hq := grow_row hq hg5 (fun e => absurd (hav _ e) (by omega)); replace hg := grow_row hg hg5 (fun e => absurd (own_ty hY.row e hg) (by decide)); (replace hl := own_at hl (fun g e => hg5.block g (hl.lt g e).2 (fun k => by (obtain ⟨cs, hrs⟩ := hY.rowT g k.symm); exact absurd (own_ty hl e hrs) (by decide)))); replace hA := hA.growR hg5 (fun g e => by have := hav g e; omega); replace hM := grow_ram hM hg5 hY.far; (replace hW := grow_went hW hg5 (fun g e => by have := hav g e; omega) (by omega)); replace hS := Nat.le_trans hS hg5.size; replace hB := Nat.le_trans hB hg5.size; clear hfd hns hav; replace hY := hY5; clear hY5 hg5) | ((with_reducible refine ld_np w.heap.size si _ hr ?_ ?_ ?_); exact rfl; exact rfl) | (go_at_call 20; (with_reducible refine (HAn.out _ _ _ hM hA hl).mono ?_); rintro e W2 ⟨rfl, O2, hM2, hW2⟩; (have hNO := hW2.no hg.lt hgO); replace hg := hW2.row hg hgO; (replace hgO := hNO); clear hNO; replace hr := hW2.row hr (hF.at 0 (by omega)); replace hq := hW2.row hq (hF.at 1 (by omega)); (have hNX := fun g e => hW2.no (hl.lt g e).2 (hln g e)); replace hl := own_went hl hW2 hln; (replace hln := hNX); clear hNX; replace hY := hY.wentX hW2; replace hA := hA.wentR hG hW2; replace hF := hF.went hW2 hS; replace hS := Nat.le_trans hS hW2.size; replace hW := hW.trans hW2; replace hB := Nat.le_trans hB hW2.size; replace hM := hM2; clear hM2 hW2) | ((with_reducible refine st_np w.heap.size si p2 _ hr ?_ ?_ ?_); exact rfl; exact rfl; intro W hnew ho; rw [HSI.out] at hnew; replace hY := hY.only ho hr (by decide) (by decide); replace hg := hg.only ho (by omega); replace hq := hq.only ho (by omega); replace hl := own_only hl ho (fun e => absurd (hl.lt _ e) (by omega)); replace hM := hM.only ho (hF.at 0 (by omega)); replace hA := hA.onlyR ho (by omega); replace hW := hW.only ho (by omega) (by omega); replace hS := (show w.heap.size + 2 ≤ W.heap.size by rw [ho.size]; exact hS); replace hB := (show B ≤ W.heap.size by rw [ho.size]; exact hB); replace hr := hnew; clear hnew ho))
            (try simp only [Act.put])
            go_roundw
            case rel => exact ⟨i + 1, f2, s2, ls ++ [(fr, (.slice (some ⟨dg, 12, none⟩) (dall.length - 12) (dcap - 12)))], _, by omega, by go_num, by rw [List.map_append, show 4 - (i + 1) = 3 - i by omega]; exact HR2.out, HOK.out, hr, hq, hM, hW, hA, hY, by rw [List.length_append]; simp; omega, hF, hS⟩
            case measure => simp [intOf]; omega
end Go.Proofs.YtbggkoahofnnjaaDoor
namespace Go.Proofs.YtbggkoahofnnjaaDoor
open Go.RowKit
set_option linter.unusedVariables false
set_option linter.unusedSimpArgs false

set_option maxHeartbeats 2000000 in
theorem nsend_nb (s : Nc) {w : World} {B b p c : Nat} {f : Nat → Nat} {O : Nat → Prop} (h : RamB w B b p f c O) (hA : AreasAt w) (hG : 0 < B) (hbe : s.be = false) : Calls Tryd.prog 9 #[.agg s.c, .pointer (some ⟨b, 0, none⟩)] w fun e w' => e = .returned (.tuple #[.agg s.c, .slice none 0 0]) ∧ ∃ O', RamB w' B b p f c O' ∧ Went B O O' w w' := by
  have hB0 := h.base
  have hGw : 0 < w.heap.size := Nat.lt_of_lt_of_le hG hB0
  have hA0 := hA
  clear hA
  go_enter Tryd.func9, Tryd.ntmps9
  have tb : (!s.be) = true := by rw [hbe]; rfl
  go_wp2_with (first | ((with_reducible refine bx_nc w.heap.size s ?_ ?_ ?_); exact rfl; exact rfl; intro W hr hb hz) | ((with_reducible refine al_nc (w.heap.size + 1) ?_ ?_); exact hz.out; intro W hq hb' hz'; replace hr := hr.bl (hz.out ▸ hb'); replace hb := hb.trans (hb'.mono (by omega)); replace hz := hz'; have hM := h.bl hb; have hW := Went.of (O := O) hb hB0; have hA := hA0.bl hb; have hF := h.far 2; have hS : w.heap.size + 2 ≤ W.heap.size := Nat.le_of_eq hz.out.symm; have hB : B ≤ W.heap.size := Nat.le_trans hB0 hb.size; clear hb hz hb' hz') | ((with_reducible refine ld_nbe w.heap.size s _ hr ?_ ?_ ?_); exact rfl; exact rfl) | ((with_reducible refine ld_nc w.heap.size s hr ?_ ?_ ?_); exact rfl; exact rfl) | ((with_reducible refine st_nc (w.heap.size + 1) _ s hq ?_ ?_ ?_); exact rfl; exact rfl; intro W hnew ho; replace hr := hr.only ho (by omega); replace hM := hM.only ho (hF.at 1 (by omega)); replace hA := hA.onlyR ho (by omega); replace hW := hW.only ho (by omega) (by omega); replace hS := (show w.heap.size + 2 ≤ W.heap.size by rw [ho.size]; exact hS); replace hB := (show B ≤ W.heap.size by rw [ho.size]; exact hB); replace hq := hnew; clear hnew ho))
  refine bodyPost_ret (results_cell_u Tryd.results9 _ _ (w.heap.size + 1) _ _ _ rfl hq Tryd.underlying43 rfl size_nc) rfl ?_
  exact ⟨rfl, _, hM, hW⟩
set_option maxHeartbeats 2000000 in
theorem nsend_nw (s : Nc) (ok : s.Ok) {w : World} {B b p c : Nat} {f : Nat → Nat} {O : Nat → Prop} (h : RamB w B b p f c O) (hA : AreasAt w) (hG : 0 < B) (hbe : s.be = true) (hw : ncWorks s.p 1 = false) : Calls Tryd.prog 9 #[.agg s.c, .pointer (some ⟨b, 0, none⟩)] w fun e w' => e = .returned (.tuple #[.agg s.c, .slice none 0 0]) ∧ ∃ O', RamB w' B b p f c O' ∧ Went B O O' w w' := by
  have HWk : Hid (∀ W, Calls Tryd.prog 14 #[.agg s.p.cells, .int .i64 1] W fun e w' => e = .returned (.bool false) ∧ Below W.heap.size W w') := hide (fun W => by have := works_1 s.p ok.p W; rw [hw] at this; exact this)
  clear hw
  have hB0 := h.base
  have hGw : 0 < w.heap.size := Nat.lt_of_lt_of_le hG hB0
  have hA0 := hA
  clear hA
  go_enter Tryd.func9, Tryd.ntmps9
  have tb : (!s.be) = false := by rw [hbe]; rfl
  go_wp2_with (first | ((with_reducible refine bx_nc w.heap.size s ?_ ?_ ?_); exact rfl; exact rfl; intro W hr hb hz) | ((with_reducible refine al_nc (w.heap.size + 1) ?_ ?_); exact hz.out; intro W hq hb' hz'; replace hr := hr.bl (hz.out ▸ hb'); replace hb := hb.trans (hb'.mono (by omega)); replace hz := hz'; have hM := h.bl hb; have hW := Went.of (O := O) hb hB0; have hA := hA0.bl hb; have hF := h.far 2; have hS : w.heap.size + 2 ≤ W.heap.size := Nat.le_of_eq hz.out.symm; have hB : B ≤ W.heap.size := Nat.le_trans hB0 hb.size; clear hb hz hb' hz') | ((with_reducible refine ld_nbe w.heap.size s _ hr ?_ ?_ ?_); exact rfl; exact rfl) | ((with_reducible refine ld_np w.heap.size s _ hr ?_ ?_ ?_); exact rfl; exact rfl) | (go_at_call 14; (with_reducible refine (HWk.out _).mono ?_); rintro e W ⟨rfl, hbc⟩; replace hM := hM.bl hbc; replace hW := hW.bl hbc hB; replace hA := hA.bl hbc; replace hB := Nat.le_trans hB hbc.size; replace hS := Nat.le_trans hS hbc.size; replace hr := hr.bl hbc; replace hq := hq.bl hbc) | ((with_reducible refine ld_nc w.heap.size s hr ?_ ?_ ?_); exact rfl; exact rfl) | ((with_reducible refine st_nc (w.heap.size + 1) _ s hq ?_ ?_ ?_); exact rfl; exact rfl; intro W hnew ho; replace hr := hr.only ho (by omega); replace hM := hM.only ho (hF.at 1 (by omega)); replace hA := hA.onlyR ho (by omega); replace hW := hW.only ho (by omega) (by omega); replace hS := (show w.heap.size + 2 ≤ W.heap.size by rw [ho.size]; exact hS); replace hB := (show B ≤ W.heap.size by rw [ho.size]; exact hB); replace hq := hnew; clear hnew ho))
  refine bodyPost_ret (results_cell_u Tryd.results9 _ _ (w.heap.size + 1) _ _ _ rfl hq Tryd.underlying43 rfl size_nc) rfl ?_
  exact ⟨rfl, _, hM, hW⟩
theorem nsend_any (s : Nc) (ok : s.Ok) {w : World} {B b p c : Nat} {f : Nat → Nat} {O : Nat → Prop} (h : RamB w B b p f c O) (hA : AreasAt w) (hG : 0 < B) (hc9 : c ≤ 700000000) : Calls Tryd.prog 9 #[.agg s.c, .pointer (some ⟨b, 0, none⟩)] w fun e w' => ∃ ov ls O', e = .returned (.tuple #[.agg (sendV p f s).2.1.c, ov]) ∧ ls.map (·.1) = (sendV p f s).2.2 ∧ RamB w' B b p (sendV p f s).1 (c + 1200) O' ∧ Went B O O' w w' ∧ FrsAt w' w.heap.size O' ov ls := by
  have hno : (s.be && ncWorks s.p 1) = false → sendV p f s = (f, s, []) := fun h => by unfold sendV; rw [h]; rfl
  cases hbe : s.be with
  | false =>
    rw [hno (by rw [hbe]; rfl)]
    refine (nsend_nb s h hA hG hbe).mono ?_
    rintro e w' ⟨rfl, O', h1, h2⟩
    exact ⟨_, [], O', rfl, rfl, h1.more (by omega), h2, FrsAt.nil _ _ _⟩
  | true =>
    cases hw : ncWorks s.p 1 with
    | false =>
      rw [hno (by rw [hw, Bool.and_false])]
      refine (nsend_nw s ok h hA hG hbe hw).mono ?_
      rintro e w' ⟨rfl, O', h1, h2⟩
      exact ⟨_, [], O', rfl, rfl, h1.more (by omega), h2, FrsAt.nil _ _ _⟩
    | true =>
      have e1 : sendV p f s = ncSend p 4 f s [] := by unfold sendV; rw [hbe, hw]; rfl
      rw [e1]
      exact nsend_go s ok h hA hG hc9 hbe hw _ _ _ rfl
end Go.Proofs.YtbggkoahofnnjaaDoor
