/-
  What nic's Take does, of any state and bytes.
-/
import Derived.Test.YtbggkoahofnnjaaDoorJK27
import Derived.Test.YtbggkoahofnnjaaDoorJK28
import Derived.Test.YtbggkoahofnnjaaDoorJK24
namespace Go.Proofs.YtbggkoahofnnjaaDoor
open Go.RowKit
set_option linter.unusedVariables false
set_option linter.unusedSimpArgs false

theorem BytesAt.bel {w W : World} {B : Nat} {ba : Option Addr} {bl : List Nat} (h : BytesAt w B ba bl) (hb : Below B w W) : BytesAt W B ba bl :=
  ⟨fun h0 => by
    obtain ⟨b, o, e, h1, h2⟩ := h.lies h0
    exact ⟨b, o, e, h1, fun j hj => (hb.cell (p := ⟨b, o + j, none⟩) h1).trans (h2 j hj)⟩, h.small⟩
theorem bytesO_nil' (w : World) (O : Nat → Prop) : BytesO w O none [] := ⟨fun h => absurd h (by decide), fun y hy => by cases hy⟩
theorem bytesO_own {w : World} {O : Nat → Prop} {B g n c : Nat} {l : List Nat} (h : w.ownsRow B 5 1 (.slice (some ⟨g, 0, none⟩) n c) n (byteV l)) (hn : ¬ O g) (hs : ∀ y ∈ l, y < 256) : BytesO w O (some ⟨g, 0, none⟩) l :=
  ⟨fun h0 => by
    have hln : l.length = n := by have := h.1; simpa [byteV] using this
    obtain ⟨g', cap, e1, _, _, _, hlt, hc⟩ := own_pos h (by omega)
    injection e1 with e1 e2 e3
    cases e1
    exact ⟨g, 0, rfl, hlt, hn, fun j hj => by rw [Nat.zero_add]; exact hc j _ (by rw [byteV, List.getElem?_map, List.getElem?_eq_getElem hj]; rfl)⟩, hs⟩
theorem headL_small : ∀ y ∈ headL, y < 256 := by decide
theorem take_next {p e : Nat} {f : Nat → Nat} {r : Rg} {c : Cn} {l : List Sg} (hf : ∀ x, f x < 256) (hr : r.Ok) (h : ncNext p f r = (e, some (c, l))) : PartsOk p l := by
  have hc := (next_same h hr).2.2
  unfold ncNext at h
  split at h
  · split at h
    · split at h
      · cases h
      · rename_i l' hw
        cases h
        exact walk_parts hf hc hw
    · cases h
  · cases h
set_option maxRecDepth 20000 in
set_option maxHeartbeats 4000000 in
theorem ntake_bad (s : Nc) (ok : s.Ok) (bl : List Nat) (bcap : Nat) (ba : Option Addr) {w : World} {B b p c : Nat} {f : Nat → Nat} {O : Nat → Prop} (h : RamB w B b p f c O) (hA : AreasAt w) (hG : 0 < B) (hby : BytesAt w B ba bl) (hbc : bl.length ≤ bcap) (hbm : bcap ≤ 9223372036854775807) (hc9 : c ≤ 700000000) (hfr : isFr (bl.length : Int) = false) : Calls Tryd.prog 6 #[.agg s.c, .pointer (some ⟨b, 0, none⟩), .slice ba bl.length bcap] w fun e w' => e = .returned (.tuple #[.agg zeroNc.c, .bool false, .iface 59 (.int .i64 2)]) ∧ ∃ O', RamB w' B b p f c O' ∧ Went B O O' w w' := by
  have HI : Hid (∀ W, Calls Tryd.prog 13 #[.int .i64 (bl.length : Nat)] W fun e w' => e = .returned (.bool false) ∧ w' = W) := hide (fun W => by have := isfr_any (bl.length : Nat) W; rw [hfr] at this; exact this)
  clear hfr hby
  generalize bl.length = M at *
  have hB0 := h.base
  have hGw : 0 < w.heap.size := Nat.lt_of_lt_of_le hG hB0
  have hA0 := hA
  clear hA
  go_enter Tryd.func6, Tryd.ntmps6
  go_wp2_with (first | ((with_reducible refine bx_nc w.heap.size s ?_ ?_ ?_); exact rfl; exact rfl; intro W hr hb hz) | ((with_reducible refine al_nc (w.heap.size + 1) ?_ ?_); exact hz.out; intro W hq hb' hz'; replace hr := hr.bl (hz.out ▸ hb'); replace hb := hb.trans (hb'.mono (by omega)); replace hz := hz'; have hM := h.bl hb; have hW := Went.of (O := O) hb hB0; have hA := hA0.bl hb; have hF := h.far 2; have hS : w.heap.size + 2 ≤ W.heap.size := Nat.le_of_eq hz.out.symm; have hB : B ≤ W.heap.size := Nat.le_trans hB0 hb.size; clear hb hz hb' hz') | (go_at_call 13; (with_reducible refine (HI.out _).mono ?_); rintro e W2 ⟨rfl, rfl⟩) | ((with_reducible refine st_nc (w.heap.size + 1) _ zeroNc hq ?_ ?_ ?_); exact rfl; exact rfl; intro W hnew ho; replace hr := hr.only ho (by omega); replace hM := hM.only ho (hF.at 1 (by omega)); replace hA := hA.onlyR ho (by omega); replace hW := hW.only ho (by omega) (by omega); replace hS := (show w.heap.size + 2 ≤ W.heap.size by rw [ho.size]; exact hS); replace hB := (show B ≤ W.heap.size by rw [ho.size]; exact hB); replace hq := hnew; clear hnew ho))
  refine bodyPost_ret (results_cell_two' Tryd.results6 _ _ (w.heap.size + 1) _ _ _ rfl hq Tryd.underlying43 rfl size_nc) rfl ?_
  exact ⟨rfl, _, hM, hW⟩
set_option maxRecDepth 20000 in
set_option maxHeartbeats 4000000 in
theorem ntake_off (s : Nc) (ok : s.Ok) (bl : List Nat) (bcap : Nat) (ba : Option Addr) {w : World} {B b p c : Nat} {f : Nat → Nat} {O : Nat → Prop} (h : RamB w B b p f c O) (hA : AreasAt w) (hG : 0 < B) (hby : BytesAt w B ba bl) (hbc : bl.length ≤ bcap) (hbm : bcap ≤ 9223372036854775807) (hc9 : c ≤ 700000000) (hfr : isFr (bl.length : Int) = true) (hw : ncWorks s.p 0 = false) : Calls Tryd.prog 6 #[.agg s.c, .pointer (some ⟨b, 0, none⟩), .slice ba bl.length bcap] w fun e w' => e = .returned (.tuple #[.agg (s.lost).c, .bool false, .nilIface]) ∧ ∃ O', RamB w' B b p (f) (c) O' ∧ Went B O O' w w' := by
  have HI : Hid (∀ W, Calls Tryd.prog 13 #[.int .i64 (bl.length : Nat)] W fun e w' => e = .returned (.bool true) ∧ w' = W) := hide (fun W => by have := isfr_any (bl.length : Nat) W; rw [hfr] at this; exact this)
  have HWk : Hid (∀ W, Calls Tryd.prog 14 #[.agg s.p.cells, .int .i64 0] W fun e w' => e = .returned (.bool false) ∧ Below W.heap.size W w') := hide (fun W => by have := works_0 s.p ok.p W; rw [hw] at this; exact this)
  clear hfr hby hw
  generalize bl.length = M at *
  have HLo := hide (fun w => lost_any s ok.lo w)
  generalize (s).lost = sl at *
  have hB0 := h.base
  have hGw : 0 < w.heap.size := Nat.lt_of_lt_of_le hG hB0
  have hA0 := hA
  clear hA
  go_enter Tryd.func6, Tryd.ntmps6
  go_wp2_with (first | ((with_reducible refine bx_nc w.heap.size s ?_ ?_ ?_); exact rfl; exact rfl; intro W hr hb hz) | ((with_reducible refine al_nc (w.heap.size + 1) ?_ ?_); exact hz.out; intro W hq hb' hz'; replace hr := hr.bl (hz.out ▸ hb'); replace hb := hb.trans (hb'.mono (by omega)); replace hz := hz'; have hM := h.bl hb; have hW := Went.of (O := O) hb hB0; have hA := hA0.bl hb; have hF := h.far 2; have hS : w.heap.size + 2 ≤ W.heap.size := Nat.le_of_eq hz.out.symm; have hB : B ≤ W.heap.size := Nat.le_trans hB0 hb.size; clear hb hz hb' hz') | (go_at_call 13; (with_reducible refine (HI.out _).mono ?_); rintro e W2 ⟨rfl, rfl⟩) | ((with_reducible refine ld_np w.heap.size s _ hr ?_ ?_ ?_); exact rfl; exact rfl) | (go_at_call 14; (with_reducible refine (HWk.out _).mono ?_); rintro e W ⟨rfl, hbc⟩; replace hM := hM.bl hbc; replace hW := hW.bl hbc hB; replace hA := hA.bl hbc; replace hB := Nat.le_trans hB hbc.size; replace hS := Nat.le_trans hS hbc.size; replace hr := hr.bl hbc; replace hq := hq.bl hbc) | ((with_reducible refine ld_nc w.heap.size s hr ?_ ?_ ?_); exact rfl; exact rfl) | (go_at_call 15; (with_reducible refine (HLo.out _).mono ?_); rintro e W ⟨rfl, hbc⟩; replace hM := hM.bl hbc; replace hW := hW.bl hbc hB; replace hA := hA.bl hbc; replace hB := Nat.le_trans hB hbc.size; replace hS := Nat.le_trans hS hbc.size; replace hr := hr.bl hbc; replace hq := hq.bl hbc) | ((with_reducible refine st_nc (w.heap.size + 1) _ sl hq ?_ ?_ ?_); exact rfl; exact rfl; intro W hnew ho; replace hr := hr.only ho (by omega); replace hM := hM.only ho (hF.at 1 (by omega)); replace hA := hA.onlyR ho (by omega); replace hW := hW.only ho (by omega) (by omega); replace hS := (show w.heap.size + 2 ≤ W.heap.size by rw [ho.size]; exact hS); replace hB := (show B ≤ W.heap.size by rw [ho.size]; exact hB); replace hq := hnew; clear hnew ho))
  refine bodyPost_ret (results_cell_two' Tryd.results6 _ _ (w.heap.size + 1) _ _ _ rfl hq Tryd.underlying43 rfl size_nc) rfl ?_
  exact ⟨rfl, _, hM, hW⟩
set_option maxRecDepth 20000 in
set_option maxHeartbeats 4000000 in
theorem ntake_none (s : Nc) (ok : s.Ok) (bl : List Nat) (bcap : Nat) (ba : Option Addr) {w : World} {B b p c : Nat} {f : Nat → Nat} {O : Nat → Prop} (h : RamB w B b p f c O) (hA : AreasAt w) (hG : 0 < B) (hby : BytesAt w B ba bl) (hbc : bl.length ≤ bcap) (hbm : bcap ≤ 9223372036854775807) (hc9 : c ≤ 700000000) (hfr : isFr (bl.length : Int) = true) (hw : ncWorks s.p 0 = true) (hnx : ncNext p f s.p.q0.r = (0, none)) : Calls Tryd.prog 6 #[.agg s.c, .pointer (some ⟨b, 0, none⟩), .slice ba bl.length bcap] w fun e w' => e = .returned (.tuple #[.agg (s.lost).c, .bool false, .nilIface]) ∧ ∃ O', RamB w' B b p (f) (c) O' ∧ Went B O O' w w' := by
  have HI : Hid (∀ W, Calls Tryd.prog 13 #[.int .i64 (bl.length : Nat)] W fun e w' => e = .returned (.bool true) ∧ w' = W) := hide (fun W => by have := isfr_any (bl.length : Nat) W; rw [hfr] at this; exact this)
  have HWk : Hid (∀ W, Calls Tryd.prog 14 #[.agg s.p.cells, .int .i64 0] W fun e w' => e = .returned (.bool true) ∧ Below W.heap.size W w') := hide (fun W => by have := works_0 s.p ok.p W; rw [hw] at this; exact this)
  have HN : Hid (∀ W Ox, RamB W B b p f c Ox → AreasAt W → Calls Tryd.prog 16 #[.agg s.p.q0.r.cells, .pointer (some ⟨b, 0, none⟩)] W fun e w' => e = .returned (.tuple #[.agg (zeroCn.c nilS), .bool false, .nilIface]) ∧ ∃ O', RamB w' B b p f c O' ∧ Went B Ox O' W w') := hide (fun W Ox hM hA => (nnext_any s.p.q0.r ok.p.q0 hM hA hG).mono (by
    rintro e w' ⟨O', h1, h2, ⟨h3, rfl⟩ | ⟨cn', ps', lv, h3, h4, rfl, h5, h6⟩⟩
    · rw [hnx]; exact ⟨rfl, O', h1, h2⟩
    · rw [hnx] at h3; cases h3))
  clear hfr hby hw hnx
  generalize bl.length = M at *
  have HLo := hide (fun w => lost_any s ok.lo w)
  generalize (s).lost = sl at *
  have hB0 := h.base
  have hGw : 0 < w.heap.size := Nat.lt_of_lt_of_le hG hB0
  have hA0 := hA
  clear hA
  go_enter Tryd.func6, Tryd.ntmps6
  go_wp2_with (first | ((with_reducible refine bx_nc w.heap.size s ?_ ?_ ?_); exact rfl; exact rfl; intro W hr hb hz) | ((with_reducible refine al_nc (w.heap.size + 1) ?_ ?_); exact hz.out; intro W hq hb' hz'; replace hr := hr.bl (hz.out ▸ hb'); replace hb := hb.trans (hb'.mono (by omega)); replace hz := hz'; have hM := h.bl hb; have hW := Went.of (O := O) hb hB0; have hA := hA0.bl hb; have hF := h.far 2; have hS : w.heap.size + 2 ≤ W.heap.size := Nat.le_of_eq hz.out.symm; have hB : B ≤ W.heap.size := Nat.le_trans hB0 hb.size; clear hb hz hb' hz') | (go_at_call 13; (with_reducible refine (HI.out _).mono ?_); rintro e W2 ⟨rfl, rfl⟩) | ((with_reducible refine ld_np w.heap.size s _ hr ?_ ?_ ?_); exact rfl; exact rfl) | (go_at_call 14; (with_reducible refine (HWk.out _).mono ?_); rintro e W ⟨rfl, hbc⟩; replace hM := hM.bl hbc; replace hW := hW.bl hbc hB; replace hA := hA.bl hbc; replace hB := Nat.le_trans hB hbc.size; replace hS := Nat.le_trans hS hbc.size; replace hr := hr.bl hbc; replace hq := hq.bl hbc) | ((with_reducible refine ld_nr0 w.heap.size s _ hr ?_ ?_ ?_); exact rfl; exact rfl) | (go_at_call 16; (with_reducible refine (HN.out _ _ hM hA).mono ?_); rintro e W2 ⟨rfl, O2, hM2, hW2⟩; replace hr := hW2.row hr (hF.at 0 (by omega)); replace hq := hW2.row hq (hF.at 1 (by omega)); replace hA := hA.wentR hG hW2; replace hF := hF.went hW2 hS; replace hS := Nat.le_trans hS hW2.size; replace hW := hW.trans hW2; replace hB := Nat.le_trans hB hW2.size; replace hM := hM2; clear hM2 hW2; obtain ⟨NX, hNX0⟩ : ∃ n, W2.heap.size = n := ⟨_, rfl⟩; have hNX := hide hNX0; have hNXx : w.heap.size + 2 ≤ NX := hNX0 ▸ hS; clear hNX0) | ((with_reducible refine al_cn NX ?_ ?_); exact hNX.out; intro W hg hb' hz'; have hbc := hNX.out ▸ hb'; have hgO := (fun e => absurd (hM.lt NX e) (by rw [hNX.out]; omega) : ¬ O2 NX); replace hM := hM.bl hbc; replace hW := hW.bl hbc hB; replace hA := hA.bl hbc; replace hB := Nat.le_trans hB hbc.size; replace hS := Nat.le_trans hS hbc.size; replace hr := hr.bl hbc; replace hq := hq.bl hbc; clear hb' hbc) | ((with_reducible refine st_cn NX _ _ zeroCn nilS rfl hg ?_ ?_ ?_); exact rfl; exact rfl; intro W hnew ho; have hOLD := hg; replace hr := hr.only ho (by omega); replace hq := hq.only ho (by omega); replace hM := hM.only ho hgO; replace hA := hA.onlyR ho (by omega); replace hW := hW.only ho (by omega) (by omega); replace hS := (show w.heap.size + 2 ≤ W.heap.size by rw [ho.size]; exact hS); replace hB := (show B ≤ W.heap.size by rw [ho.size]; exact hB); replace hg := hnew; clear hnew ho; clear hOLD) | ((with_reducible refine ld_nc w.heap.size s hr ?_ ?_ ?_); exact rfl; exact rfl) | (go_at_call 15; (with_reducible refine (HLo.out _).mono ?_); rintro e W ⟨rfl, hbc⟩; replace hM := hM.bl hbc; replace hW := hW.bl hbc hB; replace hA := hA.bl hbc; replace hB := Nat.le_trans hB hbc.size; replace hS := Nat.le_trans hS hbc.size; replace hr := hr.bl hbc; replace hq := hq.bl hbc; replace hg := hg.bl hbc) | ((with_reducible refine st_nc (w.heap.size + 1) _ sl hq ?_ ?_ ?_); exact rfl; exact rfl; intro W hnew ho; replace hg := hg.only ho (by omega); replace hr := hr.only ho (by omega); replace hM := hM.only ho (hF.at 1 (by omega)); replace hA := hA.onlyR ho (by omega); replace hW := hW.only ho (by omega) (by omega); replace hS := (show w.heap.size + 2 ≤ W.heap.size by rw [ho.size]; exact hS); replace hB := (show B ≤ W.heap.size by rw [ho.size]; exact hB); replace hq := hnew; clear hnew ho))
  refine bodyPost_ret (results_cell_two' Tryd.results6 _ _ (w.heap.size + 1) _ _ _ rfl hq Tryd.underlying43 rfl size_nc) rfl ?_
  exact ⟨rfl, _, hM, hW⟩
set_option maxRecDepth 20000 in
set_option maxHeartbeats 4000000 in
theorem ntake_err (s : Nc) (ok : s.Ok) (bl : List Nat) (bcap : Nat) (ba : Option Addr) {w : World} {B b p c : Nat} {f : Nat → Nat} {O : Nat → Prop} (h : RamB w B b p f c O) (hA : AreasAt w) (hG : 0 < B) (hby : BytesAt w B ba bl) (hbc : bl.length ≤ bcap) (hbm : bcap ≤ 9223372036854775807) (hc9 : c ≤ 700000000) (hfr : isFr (bl.length : Int) = true) (hw : ncWorks s.p 0 = true) (en : Nat) (he : en ≠ 0) (hnx : ncNext p f s.p.q0.r = (en, none)) : Calls Tryd.prog 6 #[.agg s.c, .pointer (some ⟨b, 0, none⟩), .slice ba bl.length bcap] w fun e w' => e = .returned (.tuple #[.agg (s.fail.lost).c, .bool false, .nilIface]) ∧ ∃ O', RamB w' B b p (f) (c) O' ∧ Went B O O' w w' := by
  have hE : ∃ z : Int, errR en = .iface 59 (.int .i64 z) := ⟨_, by unfold errR; rw [if_neg he]⟩
  obtain ⟨z, hz⟩ := hE
  have HI : Hid (∀ W, Calls Tryd.prog 13 #[.int .i64 (bl.length : Nat)] W fun e w' => e = .returned (.bool true) ∧ w' = W) := hide (fun W => by have := isfr_any (bl.length : Nat) W; rw [hfr] at this; exact this)
  have HWk : Hid (∀ W, Calls Tryd.prog 14 #[.agg s.p.cells, .int .i64 0] W fun e w' => e = .returned (.bool true) ∧ Below W.heap.size W w') := hide (fun W => by have := works_0 s.p ok.p W; rw [hw] at this; exact this)
  have HN : Hid (∀ W Ox, RamB W B b p f c Ox → AreasAt W → Calls Tryd.prog 16 #[.agg s.p.q0.r.cells, .pointer (some ⟨b, 0, none⟩)] W fun e w' => e = .returned (.tuple #[.agg (zeroCn.c nilS), .bool false, .iface 59 (.int .i64 z)]) ∧ ∃ O', RamB w' B b p f c O' ∧ Went B Ox O' W w') := hide (fun W Ox hM hA => (nnext_any s.p.q0.r ok.p.q0 hM hA hG).mono (by
    rintro e w' ⟨O', h1, h2, ⟨h3, rfl⟩ | ⟨cn', ps', lv, h3, h4, rfl, h5, h6⟩⟩
    · rw [hnx]; simp only; rw [hz]; exact ⟨rfl, O', h1, h2⟩
    · rw [hnx] at h3; cases h3))
  clear hfr hby hw hnx hz he
  generalize bl.length = M at *
  have HFl := hide (fun w => failed_any s ok.p w)
  have okl : s.fail.lo < 4294967296 := ok.lo
  generalize s.fail = sf at *
  have HLo := hide (fun w => lost_any sf okl w)
  generalize (sf).lost = sl at *
  have hB0 := h.base
  have hGw : 0 < w.heap.size := Nat.lt_of_lt_of_le hG hB0
  have hA0 := hA
  clear hA
  go_enter Tryd.func6, Tryd.ntmps6
  go_wp2_with (first | ((with_reducible refine bx_nc w.heap.size s ?_ ?_ ?_); exact rfl; exact rfl; intro W hr hb hz) | ((with_reducible refine al_nc (w.heap.size + 1) ?_ ?_); exact hz.out; intro W hq hb' hz'; replace hr := hr.bl (hz.out ▸ hb'); replace hb := hb.trans (hb'.mono (by omega)); replace hz := hz'; have hM := h.bl hb; have hW := Went.of (O := O) hb hB0; have hA := hA0.bl hb; have hF := h.far 2; have hS : w.heap.size + 2 ≤ W.heap.size := Nat.le_of_eq hz.out.symm; have hB : B ≤ W.heap.size := Nat.le_trans hB0 hb.size; clear hb hz hb' hz') | (go_at_call 13; (with_reducible refine (HI.out _).mono ?_); rintro e W2 ⟨rfl, rfl⟩) | ((with_reducible refine ld_np w.heap.size s _ hr ?_ ?_ ?_); exact rfl; exact rfl) | (go_at_call 14; (with_reducible refine (HWk.out _).mono ?_); rintro e W ⟨rfl, hbc⟩; replace hM := hM.bl hbc; replace hW := hW.bl hbc hB; replace hA := hA.bl hbc; replace hB := Nat.le_trans hB hbc.size; replace hS := Nat.le_trans hS hbc.size; replace hr := hr.bl hbc; replace hq := hq.bl hbc) | ((with_reducible refine ld_nr0 w.heap.size s _ hr ?_ ?_ ?_); exact rfl; exact rfl) | (go_at_call 16; (with_reducible refine (HN.out _ _ hM hA).mono ?_); rintro e W2 ⟨rfl, O2, hM2, hW2⟩; replace hr := hW2.row hr (hF.at 0 (by omega)); replace hq := hW2.row hq (hF.at 1 (by omega)); replace hA := hA.wentR hG hW2; replace hF := hF.went hW2 hS; replace hS := Nat.le_trans hS hW2.size; replace hW := hW.trans hW2; replace hB := Nat.le_trans hB hW2.size; replace hM := hM2; clear hM2 hW2; obtain ⟨NX, hNX0⟩ : ∃ n, W2.heap.size = n := ⟨_, rfl⟩; have hNX := hide hNX0; have hNXx : w.heap.size + 2 ≤ NX := hNX0 ▸ hS; clear hNX0) | ((with_reducible refine al_cn NX ?_ ?_); exact hNX.out; intro W hg hb' hz'; have hbc := hNX.out ▸ hb'; have hgO := (fun e => absurd (hM.lt NX e) (by rw [hNX.out]; omega) : ¬ O2 NX); replace hM := hM.bl hbc; replace hW := hW.bl hbc hB; replace hA := hA.bl hbc; replace hB := Nat.le_trans hB hbc.size; replace hS := Nat.le_trans hS hbc.size; replace hr := hr.bl hbc; replace hq := hq.bl hbc; clear hb' hbc) | ((with_reducible refine st_cn NX _ _ zeroCn nilS rfl hg ?_ ?_ ?_); exact rfl; exact rfl; intro W hnew ho; have hOLD := hg; replace hr := hr.only ho (by omega); replace hq := hq.only ho (by omega); replace hM := hM.only ho hgO; replace hA := hA.onlyR ho (by omega); replace hW := hW.only ho (by omega) (by omega); replace hS := (show w.heap.size + 2 ≤ W.heap.size by rw [ho.size]; exact hS); replace hB := (show B ≤ W.heap.size by rw [ho.size]; exact hB); replace hg := hnew; clear hnew ho; clear hOLD) | ((with_reducible refine ld_nc w.heap.size s hr ?_ ?_ ?_); exact rfl; exact rfl) | (go_at_call 17; (with_reducible refine (HFl.out _).mono ?_); rintro e W ⟨rfl, hbc⟩; replace hM := hM.bl hbc; replace hW := hW.bl hbc hB; replace hA := hA.bl hbc; replace hB := Nat.le_trans hB hbc.size; replace hS := Nat.le_trans hS hbc.size; replace hr := hr.bl hbc; replace hq := hq.bl hbc; replace hg := hg.bl hbc) | (go_at_call 15; (with_reducible refine (HLo.out _).mono ?_); rintro e W ⟨rfl, hbc⟩; replace hM := hM.bl hbc; replace hW := hW.bl hbc hB; replace hA := hA.bl hbc; replace hB := Nat.le_trans hB hbc.size; replace hS := Nat.le_trans hS hbc.size; replace hr := hr.bl hbc; replace hq := hq.bl hbc; replace hg := hg.bl hbc) | ((with_reducible refine st_nc (w.heap.size + 1) _ sl hq ?_ ?_ ?_); exact rfl; exact rfl; intro W hnew ho; replace hg := hg.only ho (by omega); replace hr := hr.only ho (by omega); replace hM := hM.only ho (hF.at 1 (by omega)); replace hA := hA.onlyR ho (by omega); replace hW := hW.only ho (by omega) (by omega); replace hS := (show w.heap.size + 2 ≤ W.heap.size by rw [ho.size]; exact hS); replace hB := (show B ≤ W.heap.size by rw [ho.size]; exact hB); replace hq := hnew; clear hnew ho))
  refine bodyPost_ret (results_cell_two' Tryd.results6 _ _ (w.heap.size + 1) _ _ _ rfl hq Tryd.underlying43 rfl size_nc) rfl ?_
  exact ⟨rfl, _, hM, hW⟩
set_option maxRecDepth 20000 in
set_option maxHeartbeats 4000000 in
theorem ntake_small (s : Nc) (ok : s.Ok) (bl : List Nat) (bcap : Nat) (ba : Option Addr) {w : World} {B b p c : Nat} {f : Nat → Nat} {O : Nat → Prop} (h : RamB w B b p f c O) (hA : AreasAt w) (hG : 0 < B) (hby : BytesAt w B ba bl) (hbc : bl.length ≤ bcap) (hbm : bcap ≤ 9223372036854775807) (hc9 : c ≤ 700000000) (hfr : isFr (bl.length : Int) = true) (hw : ncWorks s.p 0 = true) (cn : Cn) (ps : List Sg) (hnx : ncNext p f s.p.q0.r = (0, some (cn, ps))) (hs : roomV true 0 ps < ((12 + bl.length : Nat) : Int)) (f2 : Nat → Nat) (p2 : V) (okb : Bool) (ha : ncAns p f s.p 0 cn ps [] = (f2, p2, okb)) : Calls Tryd.prog 6 #[.agg s.c, .pointer (some ⟨b, 0, none⟩), .slice ba bl.length bcap] w fun e w' => e = .returned (.tuple #[.agg ((s.pw p2).lost).c, .bool false, .nilIface]) ∧ ∃ O', RamB w' B b p (f2) (c + 300) O' ∧ Went B O O' w w' := by
  have hP : PartsOk p ps := take_next h.small ok.p.q0 hnx
  have hcnr := (next_same hnx ok.p.q0).2.1
  obtain ⟨k0, hk0⟩ : ∃ k0, k0 = bl.length + 12 := ⟨_, rfl⟩
  have t5 : decide (roomV true 0 ps < (k0 : Int)) = true := decide_eq_true (by omega)
  obtain ⟨s2, hs2⟩ : ∃ x, s.pw p2 = x := ⟨_, rfl⟩
  have HSI := hide hs2
  rw [hs2]
  have HI : Hid (∀ W, Calls Tryd.prog 13 #[.int .i64 (bl.length : Nat)] W fun e w' => e = .returned (.bool true) ∧ w' = W) := hide (fun W => by have := isfr_any (bl.length : Nat) W; rw [hfr] at this; exact this)
  have HWk : Hid (∀ W, Calls Tryd.prog 14 #[.agg s.p.cells, .int .i64 0] W fun e w' => e = .returned (.bool true) ∧ Below W.heap.size W w') := hide (fun W => by have := works_0 s.p ok.p W; rw [hw] at this; exact this)
  have HN : Hid (∀ W Ox, RamB W B b p f c Ox → AreasAt W → Calls Tryd.prog 16 #[.agg s.p.q0.r.cells, .pointer (some ⟨b, 0, none⟩)] W fun e w' => ∃ lv, e = .returned (.tuple #[.agg (cn.c lv), .bool true, .nilIface]) ∧ ∃ O', RamB w' B b p f c O' ∧ Went B Ox O' W w' ∧ w'.ownsRow W.heap.size 104 3 lv ps.length (segL ps) ∧ ∀ g, lv.ownBlock = some g → ¬ O' g) := hide (fun W Ox hM hA => (nnext_any s.p.q0.r ok.p.q0 hM hA hG).mono (by
    rintro e w' ⟨O', h1, h2, ⟨h3, rfl⟩ | ⟨cn', ps', lv, h3, h4, rfl, h5, h6⟩⟩
    · rw [hnx] at h3; cases h3
    · rw [hnx] at h3; cases h3; exact ⟨lv, rfl, O', h1, h2, h5, h6⟩))
  have HR : Hid (∀ W lv, W.ownsRow (w.heap.size + 2) 104 3 lv ps.length (segL ps) → Calls Tryd.prog 19 #[lv] W fun e w' => e = .returned (.tuple #[.int .i64 (roomV false 0 ps), .int .i64 (roomV true 0 ps)]) ∧ Below W.heap.size W w') := hide (fun W lv hL => room_any ps (by have := hP.len; omega) (fun g hg => (hP.ok g hg).1) hL)
  have HBY := hide hby
  have HWh : Hid (∀ W, Below B w W → B ≤ W.heap.size → Calls Tryd.prog 18 #[.slice ba bl.length bcap] W fun e w' => e = .returned (.slice (some ⟨W.heap.size, 0, none⟩) k0 k0) ∧ w'.ownsRow W.heap.size 5 1 (.slice (some ⟨W.heap.size, 0, none⟩) k0 k0) k0 (byteV (headL ++ bl)) ∧ Below W.heap.size W w') := hide (fun W hb hB => whead_any bl (by simp only [isFr, Bool.and_eq_true, decide_eq_true_eq] at hfr; omega) (by simp only [isFr, Bool.and_eq_true, decide_eq_true_eq] at hfr; omega) bcap ba W hB (HBY.out.bel hb) k0 hk0)
  have HAn : Hid (∀ W Ox lv, RamB W B b p f c Ox → AreasAt W → W.ownsRow (w.heap.size + 2) 104 3 lv ps.length (segL ps) → Calls Tryd.prog 20 #[.agg s.p.cells, .int .i64 0, .pointer (some ⟨b, 0, none⟩), .agg (cn.c lv), .slice none 0 0] W fun e w' => e = .returned (.tuple #[.agg p2.cells, .bool okb]) ∧ ∃ O', RamB w' B b p f2 (c + 300) O' ∧ Went B Ox O' W w') := hide (fun W Ox lv hM hA hL => by
    have := nans_any0 s.p ok.p cn hcnr ps (by have := hP.len; omega) (fun g hg => (hP.ok g hg).1) [] 0 none hM hA hG hL (bytesO_nil' W Ox) (Nat.le_refl _) (by decide) (by decide) (by omega)
    rw [ha] at this
    exact this.mono (by
      rintro e w' ⟨rfl, O', h1, h2⟩
      exact ⟨rfl, O', h1.more (by have := hP.len; omega), h2⟩))
  have okl : s2.lo < 4294967296 := hs2 ▸ ok.lo
  clear hfr hby hw hnx ha hP hcnr hs hs2 hk0
  generalize roomV false 0 ps = RA at *
  generalize roomV true 0 ps = RW at *
  generalize bl.length = M at *
  have HLo := hide (fun w => lost_any s2 okl w)
  generalize (s2).lost = sl at *
  have hB0 := h.base
  have hGw : 0 < w.heap.size := Nat.lt_of_lt_of_le hG hB0
  have hA0 := hA
  clear hA
  go_enter Tryd.func6, Tryd.ntmps6
  go_wp2_with (first | ((with_reducible refine bx_nc w.heap.size s ?_ ?_ ?_); exact rfl; exact rfl; intro W hr hb hz) | ((with_reducible refine al_nc (w.heap.size + 1) ?_ ?_); exact hz.out; intro W hq hb' hz'; replace hr := hr.bl (hz.out ▸ hb'); replace hb := hb.trans (hb'.mono (by omega)); replace hz := hz'; have hM := h.bl hb; have hW := Went.of (O := O) hb hB0; have hA := hA0.bl hb; have hF := h.far 2; have hS : w.heap.size + 2 ≤ W.heap.size := Nat.le_of_eq hz.out.symm; have hB : B ≤ W.heap.size := Nat.le_trans hB0 hb.size; clear hb hz hb' hz') | (go_at_call 13; (with_reducible refine (HI.out _).mono ?_); rintro e W2 ⟨rfl, rfl⟩) | ((with_reducible refine ld_np w.heap.size s _ hr ?_ ?_ ?_); exact rfl; exact rfl) | (go_at_call 14; (with_reducible refine (HWk.out _).mono ?_); rintro e W ⟨rfl, hbc⟩; replace hM := hM.bl hbc; replace hW := hW.bl hbc hB; replace hA := hA.bl hbc; replace hB := Nat.le_trans hB hbc.size; replace hS := Nat.le_trans hS hbc.size; replace hr := hr.bl hbc; replace hq := hq.bl hbc) | ((with_reducible refine ld_nr0 w.heap.size s _ hr ?_ ?_ ?_); exact rfl; exact rfl) | (go_at_call 16; (with_reducible refine (HN.out _ _ hM hA).mono ?_); rintro e W2 ⟨lv, rfl, O2, hM2, hW2, hl0, hln⟩; (have hl := own_lower2 hl0 (show w.heap.size + 2 ≤ _ by omega)); clear hl0; replace hr := hW2.row hr (hF.at 0 (by omega)); replace hq := hW2.row hq (hF.at 1 (by omega)); replace hA := hA.wentR hG hW2; replace hF := hF.went hW2 hS; replace hS := Nat.le_trans hS hW2.size; replace hW := hW.trans hW2; replace hB := Nat.le_trans hB hW2.size; replace hM := hM2; clear hM2 hW2; obtain ⟨NX, hNX0⟩ : ∃ n, W2.heap.size = n := ⟨_, rfl⟩; have hNX := hide hNX0; have hNXx : w.heap.size + 2 ≤ NX := hNX0 ▸ hS; clear hNX0) | ((with_reducible refine al_cn NX ?_ ?_); exact hNX.out; intro W hg hb' hz'; have hbc := hNX.out ▸ hb'; have hgO := (fun e => absurd (hM.lt NX e) (by rw [hNX.out]; omega) : ¬ O2 NX); replace hM := hM.bl hbc; replace hW := hW.bl hbc hB; replace hA := hA.bl hbc; replace hB := Nat.le_trans hB hbc.size; replace hS := Nat.le_trans hS hbc.size; replace hr := hr.bl hbc; replace hq := hq.bl hbc; replace hl := own_bel hl hbc; clear hb' hbc) | ((with_reducible refine st_cn NX _ _ cn lv (own_one hl) hg ?_ ?_ ?_); exact rfl; exact rfl; intro W hnew ho; have hOLD := hg; replace hr := hr.only ho (by omega); replace hq := hq.only ho (by omega); replace hl := own_only hl ho (fun e => absurd (own_ty hl e hOLD) (by decide)); replace hM := hM.only ho hgO; replace hA := hA.onlyR ho (by omega); replace hW := hW.only ho (by omega) (by omega); replace hS := (show w.heap.size + 2 ≤ W.heap.size by rw [ho.size]; exact hS); replace hB := (show B ≤ W.heap.size by rw [ho.size]; exact hB); replace hg := hnew; clear hnew ho; clear hOLD) | (go_at_call 18; (with_reducible refine (HWh.out _ hW.below hB).mono ?_); rintro e W ⟨rfl, hy0, hbc⟩; (have hyn := fun g e => (fun k => absurd (hM.lt g k) (Nat.not_lt.2 (hy0.lt g e).1) : ¬ O2 g)); (have hy := own_lower2 hy0 (show w.heap.size + 2 ≤ _ by omega)); clear hy0; replace hM := hM.bl hbc; replace hW := hW.bl hbc hB; replace hA := hA.bl hbc; replace hB := Nat.le_trans hB hbc.size; replace hS := Nat.le_trans hS hbc.size; replace hr := hr.bl hbc; replace hq := hq.bl hbc; replace hl := own_bel hl hbc; replace hg := hg.bl hbc) | ((with_reducible refine ld_cps NX cn lv _ hg ?_ ?_ ?_); exact rfl; exact rfl) | (go_at_call 19; (with_reducible refine (HR.out _ _ hl).mono ?_); rintro e W ⟨rfl, hbc⟩; replace hM := hM.bl hbc; replace hW := hW.bl hbc hB; replace hA := hA.bl hbc; replace hB := Nat.le_trans hB hbc.size; replace hS := Nat.le_trans hS hbc.size; replace hr := hr.bl hbc; replace hq := hq.bl hbc; replace hl := own_bel hl hbc; replace hy := own_bel hy hbc; replace hg := hg.bl hbc) | ((with_reducible refine ld_cn NX cn lv hg ?_ ?_ ?_); exact rfl; exact rfl) | (go_at_call 20; (with_reducible refine (HAn.out _ _ _ hM hA hl).mono ?_); rintro e W2 ⟨rfl, O2, hM2, hW2⟩; (have hNO := hW2.no hg.lt hgO); replace hg := hW2.row hg hgO; (replace hgO := hNO); clear hNO; replace hr := hW2.row hr (hF.at 0 (by omega)); replace hq := hW2.row hq (hF.at 1 (by omega)); (have hNX := fun g e => hW2.no (hl.lt g e).2 (hln g e)); replace hl := own_went hl hW2 hln; (replace hln := hNX); clear hNX; (have hNX := fun g e => hW2.no (hy.lt g e).2 (hyn g e)); replace hy := own_went hy hW2 hyn; (replace hyn := hNX); clear hNX; replace hA := hA.wentR hG hW2; replace hF := hF.went hW2 hS; replace hS := Nat.le_trans hS hW2.size; replace hW := hW.trans hW2; replace hB := Nat.le_trans hB hW2.size; replace hM := hM2; clear hM2 hW2) | ((with_reducible refine st_np w.heap.size s p2 _ hr ?_ ?_ ?_); exact rfl; exact rfl; intro W hnew ho; rw [HSI.out] at hnew; replace hg := hg.only ho (by omega); replace hq := hq.only ho (by omega); replace hl := own_only hl ho (fun e => absurd (hl.lt _ e) (by omega)); replace hy := own_only hy ho (fun e => absurd (hy.lt _ e) (by omega)); replace hM := hM.only ho (hF.at 0 (by omega)); replace hA := hA.onlyR ho (by omega); replace hW := hW.only ho (by omega) (by omega); replace hS := (show w.heap.size + 2 ≤ W.heap.size by rw [ho.size]; exact hS); replace hB := (show B ≤ W.heap.size by rw [ho.size]; exact hB); replace hr := hnew; clear hnew ho) | ((with_reducible refine ld_nc w.heap.size s2 hr ?_ ?_ ?_); exact rfl; exact rfl) | (go_at_call 15; (with_reducible refine (HLo.out _).mono ?_); rintro e W ⟨rfl, hbc⟩; replace hM := hM.bl hbc; replace hW := hW.bl hbc hB; replace hA := hA.bl hbc; replace hB := Nat.le_trans hB hbc.size; replace hS := Nat.le_trans hS hbc.size; replace hr := hr.bl hbc; replace hq := hq.bl hbc; replace hl := own_bel hl hbc; replace hy := own_bel hy hbc; replace hg := hg.bl hbc) | ((with_reducible refine st_nc (w.heap.size + 1) _ sl hq ?_ ?_ ?_); exact rfl; exact rfl; intro W hnew ho; replace hg := hg.only ho (by omega); replace hr := hr.only ho (by omega); replace hl := own_only hl ho (fun e => absurd (hl.lt _ e) (by omega)); replace hy := own_only hy ho (fun e => absurd (hy.lt _ e) (by omega)); replace hM := hM.only ho (hF.at 1 (by omega)); replace hA := hA.onlyR ho (by omega); replace hW := hW.only ho (by omega) (by omega); replace hS := (show w.heap.size + 2 ≤ W.heap.size by rw [ho.size]; exact hS); replace hB := (show B ≤ W.heap.size by rw [ho.size]; exact hB); replace hq := hnew; clear hnew ho))
  refine bodyPost_ret (results_cell_two' Tryd.results6 _ _ (w.heap.size + 1) _ _ _ rfl hq Tryd.underlying43 rfl size_nc) rfl ?_
  exact ⟨rfl, _, hM, hW⟩
set_option maxRecDepth 20000 in
set_option maxHeartbeats 4000000 in
theorem ntake_ok (s : Nc) (ok : s.Ok) (bl : List Nat) (bcap : Nat) (ba : Option Addr) {w : World} {B b p c : Nat} {f : Nat → Nat} {O : Nat → Prop} (h : RamB w B b p f c O) (hA : AreasAt w) (hG : 0 < B) (hby : BytesAt w B ba bl) (hbc : bl.length ≤ bcap) (hbm : bcap ≤ 9223372036854775807) (hc9 : c ≤ 700000000) (hfr : isFr (bl.length : Int) = true) (hw : ncWorks s.p 0 = true) (cn : Cn) (ps : List Sg) (hnx : ncNext p f s.p.q0.r = (0, some (cn, ps))) (hs : ¬ roomV true 0 ps < ((12 + bl.length : Nat) : Int)) (f2 : Nat → Nat) (p2 : V) (okb : Bool) (ha : ncAns p f s.p 0 cn ps (headL ++ bl) = (f2, p2, okb)) : Calls Tryd.prog 6 #[.agg s.c, .pointer (some ⟨b, 0, none⟩), .slice ba bl.length bcap] w fun e w' => e = .returned (.tuple #[.agg (s.pw p2).c, .bool true, .nilIface]) ∧ ∃ O', RamB w' B b p (f2) (c + 300) O' ∧ Went B O O' w w' := by
  have hP : PartsOk p ps := take_next h.small ok.p.q0 hnx
  have hcnr := (next_same hnx ok.p.q0).2.1
  obtain ⟨k0, hk0⟩ : ∃ k0, k0 = bl.length + 12 := ⟨_, rfl⟩
  have t5 : decide (roomV true 0 ps < (k0 : Int)) = false := decide_eq_false (by omega)
  have hk9 : (headL ++ bl).length = k0 := by rw [List.length_append, hk0]; show 12 + bl.length = _; omega
  have hk8 : k0 ≤ 1526 := by simp only [isFr, Bool.and_eq_true, decide_eq_true_eq] at hfr; omega
  obtain ⟨s2, hs2⟩ : ∃ x, s.pw p2 = x := ⟨_, rfl⟩
  have HSI := hide hs2
  rw [hs2]
  have HI : Hid (∀ W, Calls Tryd.prog 13 #[.int .i64 (bl.length : Nat)] W fun e w' => e = .returned (.bool true) ∧ w' = W) := hide (fun W => by have := isfr_any (bl.length : Nat) W; rw [hfr] at this; exact this)
  have HWk : Hid (∀ W, Calls Tryd.prog 14 #[.agg s.p.cells, .int .i64 0] W fun e w' => e = .returned (.bool true) ∧ Below W.heap.size W w') := hide (fun W => by have := works_0 s.p ok.p W; rw [hw] at this; exact this)
  have HN : Hid (∀ W Ox, RamB W B b p f c Ox → AreasAt W → Calls Tryd.prog 16 #[.agg s.p.q0.r.cells, .pointer (some ⟨b, 0, none⟩)] W fun e w' => ∃ lv, e = .returned (.tuple #[.agg (cn.c lv), .bool true, .nilIface]) ∧ ∃ O', RamB w' B b p f c O' ∧ Went B Ox O' W w' ∧ w'.ownsRow W.heap.size 104 3 lv ps.length (segL ps) ∧ ∀ g, lv.ownBlock = some g → ¬ O' g) := hide (fun W Ox hM hA => (nnext_any s.p.q0.r ok.p.q0 hM hA hG).mono (by
    rintro e w' ⟨O', h1, h2, ⟨h3, rfl⟩ | ⟨cn', ps', lv, h3, h4, rfl, h5, h6⟩⟩
    · rw [hnx] at h3; cases h3
    · rw [hnx] at h3; cases h3; exact ⟨lv, rfl, O', h1, h2, h5, h6⟩))
  have HR : Hid (∀ W lv, W.ownsRow (w.heap.size + 2) 104 3 lv ps.length (segL ps) → Calls Tryd.prog 19 #[lv] W fun e w' => e = .returned (.tuple #[.int .i64 (roomV false 0 ps), .int .i64 (roomV true 0 ps)]) ∧ Below W.heap.size W w') := hide (fun W lv hL => room_any ps (by have := hP.len; omega) (fun g hg => (hP.ok g hg).1) hL)
  have HBY := hide hby
  have HWh : Hid (∀ W, Below B w W → B ≤ W.heap.size → Calls Tryd.prog 18 #[.slice ba bl.length bcap] W fun e w' => e = .returned (.slice (some ⟨W.heap.size, 0, none⟩) k0 k0) ∧ w'.ownsRow W.heap.size 5 1 (.slice (some ⟨W.heap.size, 0, none⟩) k0 k0) k0 (byteV (headL ++ bl)) ∧ Below W.heap.size W w') := hide (fun W hb hB => whead_any bl (by simp only [isFr, Bool.and_eq_true, decide_eq_true_eq] at hfr; omega) (by simp only [isFr, Bool.and_eq_true, decide_eq_true_eq] at hfr; omega) bcap ba W hB (HBY.out.bel hb) k0 hk0)
  have HAn : Hid (∀ W Ox lv gy, RamB W B b p f c Ox → AreasAt W → W.ownsRow (w.heap.size + 2) 104 3 lv ps.length (segL ps) → W.ownsRow (w.heap.size + 2) 5 1 (.slice (some ⟨gy, 0, none⟩) k0 k0) k0 (byteV (headL ++ bl)) → ¬ Ox gy → Calls Tryd.prog 20 #[.agg s.p.cells, .int .i64 0, .pointer (some ⟨b, 0, none⟩), .agg (cn.c lv), .slice (some ⟨gy, 0, none⟩) k0 k0] W fun e w' => e = .returned (.tuple #[.agg p2.cells, .bool okb]) ∧ ∃ O', RamB w' B b p f2 (c + 300) O' ∧ Went B Ox O' W w') := hide (fun W Ox lv gy hM hA hL hY hYn => by
    have := nans_any0 s.p ok.p cn hcnr ps (by have := hP.len; omega) (fun g hg => (hP.ok g hg).1) (headL ++ bl) k0 (some ⟨gy, 0, none⟩) hM hA hG hL (bytesO_own hY hYn (fun y hy => by rcases List.mem_append.1 hy with q | q; exact headL_small y q; exact HBY.out.small y q)) (Nat.le_of_eq hk9) (by omega) (by rw [hk9]; omega) (by omega)
    rw [ha, hk9] at this
    exact this.mono (by
      rintro e w' ⟨rfl, O', h1, h2⟩
      exact ⟨rfl, O', h1.more (by have := hP.len; omega), h2⟩))
  clear hfr hby hw hnx ha hP hcnr hs hs2 hk0 hk9
  generalize roomV false 0 ps = RA at *
  generalize roomV true 0 ps = RW at *
  generalize bl.length = M at *
  have hB0 := h.base
  have hGw : 0 < w.heap.size := Nat.lt_of_lt_of_le hG hB0
  have hA0 := hA
  clear hA
  go_enter Tryd.func6, Tryd.ntmps6
  go_wp2_with (first | ((with_reducible refine bx_nc w.heap.size s ?_ ?_ ?_); exact rfl; exact rfl; intro W hr hb hz) | ((with_reducible refine al_nc (w.heap.size + 1) ?_ ?_); exact hz.out; intro W hq hb' hz'; replace hr := hr.bl (hz.out ▸ hb'); replace hb := hb.trans (hb'.mono (by omega)); replace hz := hz'; have hM := h.bl hb; have hW := Went.of (O := O) hb hB0; have hA := hA0.bl hb; have hF := h.far 2; have hS : w.heap.size + 2 ≤ W.heap.size := Nat.le_of_eq hz.out.symm; have hB : B ≤ W.heap.size := Nat.le_trans hB0 hb.size; clear hb hz hb' hz') | (go_at_call 13; (with_reducible refine (HI.out _).mono ?_); rintro e W2 ⟨rfl, rfl⟩) | ((with_reducible refine ld_np w.heap.size s _ hr ?_ ?_ ?_); exact rfl; exact rfl) | (go_at_call 14; (with_reducible refine (HWk.out _).mono ?_); rintro e W ⟨rfl, hbc⟩; replace hM := hM.bl hbc; replace hW := hW.bl hbc hB; replace hA := hA.bl hbc; replace hB := Nat.le_trans hB hbc.size; replace hS := Nat.le_trans hS hbc.size; replace hr := hr.bl hbc; replace hq := hq.bl hbc) | ((with_reducible refine ld_nr0 w.heap.size s _ hr ?_ ?_ ?_); exact rfl; exact rfl) | (go_at_call 16; (with_reducible refine (HN.out _ _ hM hA).mono ?_); rintro e W2 ⟨lv, rfl, O2, hM2, hW2, hl0, hln⟩; (have hl := own_lower2 hl0 (show w.heap.size + 2 ≤ _ by omega)); clear hl0; replace hr := hW2.row hr (hF.at 0 (by omega)); replace hq := hW2.row hq (hF.at 1 (by omega)); replace hA := hA.wentR hG hW2; replace hF := hF.went hW2 hS; replace hS := Nat.le_trans hS hW2.size; replace hW := hW.trans hW2; replace hB := Nat.le_trans hB hW2.size; replace hM := hM2; clear hM2 hW2; obtain ⟨NX, hNX0⟩ : ∃ n, W2.heap.size = n := ⟨_, rfl⟩; have hNX := hide hNX0; have hNXx : w.heap.size + 2 ≤ NX := hNX0 ▸ hS; clear hNX0) | ((with_reducible refine al_cn NX ?_ ?_); exact hNX.out; intro W hg hb' hz'; have hbc := hNX.out ▸ hb'; have hgO := (fun e => absurd (hM.lt NX e) (by rw [hNX.out]; omega) : ¬ O2 NX); replace hM := hM.bl hbc; replace hW := hW.bl hbc hB; replace hA := hA.bl hbc; replace hB := Nat.le_trans hB hbc.size; replace hS := Nat.le_trans hS hbc.size; replace hr := hr.bl hbc; replace hq := hq.bl hbc; replace hl := own_bel hl hbc; clear hb' hbc) | ((with_reducible refine st_cn NX _ _ cn lv (own_one hl) hg ?_ ?_ ?_); exact rfl; exact rfl; intro W hnew ho; have hOLD := hg; replace hr := hr.only ho (by omega); replace hq := hq.only ho (by omega); replace hl := own_only hl ho (fun e => absurd (own_ty hl e hOLD) (by decide)); replace hM := hM.only ho hgO; replace hA := hA.onlyR ho (by omega); replace hW := hW.only ho (by omega) (by omega); replace hS := (show w.heap.size + 2 ≤ W.heap.size by rw [ho.size]; exact hS); replace hB := (show B ≤ W.heap.size by rw [ho.size]; exact hB); replace hg := hnew; clear hnew ho; clear hOLD) | (go_at_call 18; (with_reducible refine (HWh.out _ hW.below hB).mono ?_); rintro e W ⟨rfl, hy0, hbc⟩; (have hyn := fun g e => (fun k => absurd (hM.lt g k) (Nat.not_lt.2 (hy0.lt g e).1) : ¬ O2 g)); (have hy := own_lower2 hy0 (show w.heap.size + 2 ≤ _ by omega)); clear hy0; replace hM := hM.bl hbc; replace hW := hW.bl hbc hB; replace hA := hA.bl hbc; replace hB := Nat.le_trans hB hbc.size; replace hS := Nat.le_trans hS hbc.size; replace hr := hr.bl hbc; replace hq := hq.bl hbc; replace hl := own_bel hl hbc; replace hg := hg.bl hbc) | ((with_reducible refine ld_cps NX cn lv _ hg ?_ ?_ ?_); exact rfl; exact rfl) | (go_at_call 19; (with_reducible refine (HR.out _ _ hl).mono ?_); rintro e W ⟨rfl, hbc⟩; replace hM := hM.bl hbc; replace hW := hW.bl hbc hB; replace hA := hA.bl hbc; replace hB := Nat.le_trans hB hbc.size; replace hS := Nat.le_trans hS hbc.size; replace hr := hr.bl hbc; replace hq := hq.bl hbc; replace hl := own_bel hl hbc; replace hy := own_bel hy hbc; replace hg := hg.bl hbc) | ((with_reducible refine ld_cn NX cn lv hg ?_ ?_ ?_); exact rfl; exact rfl) | (go_at_call 20; (with_reducible refine (HAn.out _ _ _ _ hM hA hl hy (hyn _ rfl)).mono ?_); rintro e W2 ⟨rfl, O2, hM2, hW2⟩; (have hNO := hW2.no hg.lt hgO); replace hg := hW2.row hg hgO; (replace hgO := hNO); clear hNO; replace hr := hW2.row hr (hF.at 0 (by omega)); replace hq := hW2.row hq (hF.at 1 (by omega)); (have hNX := fun g e => hW2.no (hl.lt g e).2 (hln g e)); replace hl := own_went hl hW2 hln; (replace hln := hNX); clear hNX; (have hNX := fun g e => hW2.no (hy.lt g e).2 (hyn g e)); replace hy := own_went hy hW2 hyn; (replace hyn := hNX); clear hNX; replace hA := hA.wentR hG hW2; replace hF := hF.went hW2 hS; replace hS := Nat.le_trans hS hW2.size; replace hW := hW.trans hW2; replace hB := Nat.le_trans hB hW2.size; replace hM := hM2; clear hM2 hW2) | ((with_reducible refine st_np w.heap.size s p2 _ hr ?_ ?_ ?_); exact rfl; exact rfl; intro W hnew ho; rw [HSI.out] at hnew; replace hg := hg.only ho (by omega); replace hq := hq.only ho (by omega); replace hl := own_only hl ho (fun e => absurd (hl.lt _ e) (by omega)); replace hy := own_only hy ho (fun e => absurd (hy.lt _ e) (by omega)); replace hM := hM.only ho (hF.at 0 (by omega)); replace hA := hA.onlyR ho (by omega); replace hW := hW.only ho (by omega) (by omega); replace hS := (show w.heap.size + 2 ≤ W.heap.size by rw [ho.size]; exact hS); replace hB := (show B ≤ W.heap.size by rw [ho.size]; exact hB); replace hr := hnew; clear hnew ho) | ((with_reducible refine ld_nc w.heap.size s2 hr ?_ ?_ ?_); exact rfl; exact rfl) | ((with_reducible refine st_nc (w.heap.size + 1) _ s2 hq ?_ ?_ ?_); exact rfl; exact rfl; intro W hnew ho; replace hg := hg.only ho (by omega); replace hr := hr.only ho (by omega); replace hl := own_only hl ho (fun e => absurd (hl.lt _ e) (by omega)); replace hy := own_only hy ho (fun e => absurd (hy.lt _ e) (by omega)); replace hM := hM.only ho (hF.at 1 (by omega)); replace hA := hA.onlyR ho (by omega); replace hW := hW.only ho (by omega) (by omega); replace hS := (show w.heap.size + 2 ≤ W.heap.size by rw [ho.size]; exact hS); replace hB := (show B ≤ W.heap.size by rw [ho.size]; exact hB); replace hq := hnew; clear hnew ho))
  refine bodyPost_ret (results_cell_two' Tryd.results6 _ _ (w.heap.size + 1) _ _ _ rfl hq Tryd.underlying43 rfl size_nc) rfl ?_
  exact ⟨rfl, _, hM, hW⟩
end Go.Proofs.YtbggkoahofnnjaaDoor
namespace Go.Proofs.YtbggkoahofnnjaaDoor
open Go.RowKit
set_option linter.unusedVariables false
set_option linter.unusedSimpArgs false

theorem ntake_any (s : Nc) (ok : s.Ok) (bl : List Nat) (bcap : Nat) (ba : Option Addr) {w : World} {B b p c : Nat} {f : Nat → Nat} {O : Nat → Prop} (h : RamB w B b p f c O) (hA : AreasAt w) (hG : 0 < B) (hby : BytesAt w B ba bl) (hbc : bl.length ≤ bcap) (hbm : bcap ≤ 9223372036854775807) (hc9 : c ≤ 700000000) : Calls Tryd.prog 6 #[.agg s.c, .pointer (some ⟨b, 0, none⟩), .slice ba bl.length bcap] w fun e w' => e = .returned (.tuple #[.agg (takeV p f s bl).2.1.c, .bool (takeV p f s bl).2.2.1, errR (takeV p f s bl).2.2.2]) ∧ ∃ O', RamB w' B b p (takeV p f s bl).1 (c + 300) O' ∧ Went B O O' w w' := by
  cases hfr : isFr (bl.length : Int) with
  | false =>
    rw [takeV_no hfr]
    refine (ntake_bad s ok bl bcap ba h hA hG hby hbc hbm hc9 hfr).mono ?_
    rintro e w' ⟨rfl, O', h1, h2⟩
    exact ⟨rfl, O', h1.more (by omega), h2⟩
  | true =>
    cases hw : ncWorks s.p 0 with
    | false =>
      have e1 : takeV p f s bl = (f, s.lost, false, 0) := by unfold takeV; rw [hfr, hw]; rfl
      rw [e1]
      refine (ntake_off s ok bl bcap ba h hA hG hby hbc hbm hc9 hfr hw).mono ?_
      rintro e w' ⟨rfl, O', h1, h2⟩
      exact ⟨rfl, O', h1.more (by omega), h2⟩
    | true =>
      rcases hnx : ncNext p f s.p.q0.r with ⟨en, _ | ⟨cn, ps⟩⟩
      · by_cases he : en = 0
        · subst he
          have e1 : takeV p f s bl = (f, s.lost, false, 0) := by unfold takeV; rw [hfr, hw, hnx]; rfl
          rw [e1]
          refine (ntake_none s ok bl bcap ba h hA hG hby hbc hbm hc9 hfr hw hnx).mono ?_
          rintro e w' ⟨rfl, O', h1, h2⟩
          exact ⟨rfl, O', h1.more (by omega), h2⟩
        · have e1 : takeV p f s bl = (f, s.fail.lost, false, 0) := by unfold takeV; rw [hfr, hw, hnx]; exact if_neg he
          rw [e1]
          refine (ntake_err s ok bl bcap ba h hA hG hby hbc hbm hc9 hfr hw en he hnx).mono ?_
          rintro e w' ⟨rfl, O', h1, h2⟩
          exact ⟨rfl, O', h1.more (by omega), h2⟩
      · have he0 : en = 0 := by
          unfold ncNext at hnx
          repeat' split at hnx
          all_goals first | (cases hnx; rfl) | (cases hnx; done) | (simp at hnx; done)
        subst he0
        by_cases hs : roomV true 0 ps < ((12 + bl.length : Nat) : Int)
        · have e1 : takeV p f s bl = ((ncAns p f s.p 0 cn ps []).1, (s.pw (ncAns p f s.p 0 cn ps []).2.1).lost, false, 0) := by unfold takeV; rw [hfr, hw, hnx]; exact if_pos hs
          rw [e1]
          exact ntake_small s ok bl bcap ba h hA hG hby hbc hbm hc9 hfr hw cn ps hnx hs _ _ _ rfl
        · have e1 : takeV p f s bl = ((ncAns p f s.p 0 cn ps (headL ++ bl)).1, s.pw (ncAns p f s.p 0 cn ps (headL ++ bl)).2.1, true, 0) := by unfold takeV; rw [hfr, hw, hnx]; exact if_neg hs
          rw [e1]
          exact ntake_ok s ok bl bcap ba h hA hG hby hbc hbm hc9 hfr hw cn ps hnx hs _ _ _ rfl
end Go.Proofs.YtbggkoahofnnjaaDoor
