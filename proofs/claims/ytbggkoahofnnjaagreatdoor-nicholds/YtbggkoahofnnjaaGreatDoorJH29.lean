/-
  The law's giveNic.
-/
import Derived.Test.YtbggkoahofnnjaaGreatDoorJH28
import Derived.Test.YtbggkoahofnnjaaGreatDoorJH21
import Derived.Test.YtbggkoahofnnjaaGreatDoorJH11
namespace Go.Proofs.YtbggkoahofnnjaaGreatDoor
open Go.RowKit
set_option linter.unusedVariables false
set_option linter.unusedSimpArgs false

theorem nextV_is {p : Nat} {f : Nat → Nat} {r : Rg} (hr : r.Ok) (h : (nextV p f r).2.2.1 = true) : (nextV p f r).1.Ok ∧ chkR (nextV p f r).1 = true := by
  unfold nextV at h ⊢
  repeat' split
  all_goals first
    | (exfalso; simp_all; done)
    | exact ⟨⟨hr.sz0, hr.sz1, hr.de, hr.av, hr.us, Nat.mod_lt _ (by decide), hr.pu⟩, by assumption⟩
theorem built_cn (r : Rg) (hd : Int) (va : Option Addr) (vn vc : Nat) : Tryz.prog.built 104 [(0, .agg r.cells), (1, .int .i64 hd), (2, .slice va vn vc)] = some ((⟨r, hd⟩ : Cn).c (.slice va vn vc)) := by kernel_rfl
theorem bd_cn {ops : Array Oper} {rest : List Oper} {dst : Option Tmp} {ty : TypeId} {pos : String} {after : Array Edge} {a : Act} {w : World} {Q : Exit → Act → World → Prop} {x0 x1 x2 : Operand} (r : Rg) (hd : Int) (va : Option Addr) (vn vc : Nat) (h0 : a.eval x0 = .agg r.cells) (h1 : a.eval x1 = .int .i64 hd) (h2 : a.eval x2 = .slice va vn vc)
    (k : wpList Tryz.prog ops Q rest (a.put dst (.agg ((⟨r, hd⟩ : Cn).c (.slice va vn vc)))) w) : wpList Tryz.prog ops Q (⟨dst, .build 104 #[(0, x0), (1, x1), (2, x2)], ty, pos, after, none⟩ :: rest) a w := by
  have hp : ((#[(0, x0), (1, x1), (2, x2)] : Array (Nat × Operand)).map fun (i, x) => (i, a.eval x)).toList = [(0, .agg r.cells), (1, .int .i64 hd), (2, .slice va vn vc)] := by
    simp [h0, h1, h2]
  refine wpList_build rfl 104 _ rfl ?_ ?_
  · rw [hp, built_cn]; rfl
  · rw [hp, built_cn]; exact k
set_option maxHeartbeats 2000000 in
theorem nnext_err (r : Rg) (hr0 : r.Ok) {w : World} {B b p c : Nat} {f : Nat → Nat} {O : Nat → Prop} (h : RamB w B b p f c O) (hA : AreasAt w) (hG : 2 < B) (he : (nextV p f r).2.2.2 ≠ 0) : Calls Tryz.prog 38 #[.agg r.cells, .pointer (some ⟨b, 0, none⟩)] w fun e w' => e = .returned (.tuple #[.agg (zeroCn.c nilS), .bool false, errR (nextV p f r).2.2.2]) ∧ ∃ O', RamB w' B b p f c O' ∧ Went B O O' w w' := by
  have HN : Hid (∀ W O1, RamB W B b p f c O1 → AreasAt W → Calls Tryz.prog 79 #[.agg r.cells, .pointer (some ⟨b, 0, none⟩)] W fun e w' => e = .returned (.tuple #[.agg (nextV p f r).1.cells, .int .i64 ((nextV p f r).2.1 : Nat), .bool (nextV p f r).2.2.1, errR (nextV p f r).2.2.2]) ∧ ∃ O', RamB w' B b p f c O' ∧ Went B O1 O' W w') := hide (fun W O1 hM hA => rnext_any r hr0 hM hA hG)
  have hE : ∃ z : Int, errR (nextV p f r).2.2.2 = .iface 82 (.int .i64 z) := ⟨_, by unfold errR; rw [if_neg he]⟩
  clear he
  generalize nextV p f r = nv at *
  obtain ⟨r1, h1, is, en⟩ := nv
  simp only at HN hE ⊢
  obtain ⟨z, hz⟩ := hE
  rw [hz] at HN ⊢
  clear hz
  have hB0 := h.base
  have hGw : 2 < w.heap.size := Nat.lt_of_lt_of_le hG hB0
  have hA0 := hA
  clear hA
  go_enter Tryz.func38, Tryz.ntmps38
  go_wp2_with (first | ((with_reducible refine bx_rp w.heap.size r ?_ ?_ ?_); exact rfl; exact rfl; intro W hr hb hz) | ((with_reducible refine al_cn (w.heap.size + 1) ?_ ?_); exact hz.out; intro W hq hb' hz'; replace hr := hr.bl (hz.out ▸ hb'); replace hb := hb.trans (hb'.mono (by omega)); replace hz := hz'; have hM := h.bl hb; have hW := Went.of (O := O) hb hB0; have hA := hA0.bl hb; have hF := h.far 2; have hS : w.heap.size + 2 ≤ W.heap.size := Nat.le_of_eq hz.out.symm; have hB : B ≤ W.heap.size := Nat.le_trans hB0 hb.size; clear hb hz hb' hz') | ((with_reducible refine ld_rp w.heap.size r hr ?_ ?_ ?_); exact rfl; exact rfl) | (go_at_call 79; (with_reducible refine (HN.out _ _ hM hA).mono ?_); rintro e W2 ⟨rfl, O2, hM2, hW2⟩; replace hr := hW2.row hr (hF.at 0 (by omega)); replace hq := hW2.row hq (hF.at 1 (by omega)); replace hA := hA.wentR hG hW2; replace hF := hF.went hW2 hS; replace hS := Nat.le_trans hS hW2.size; replace hW := hW.trans hW2; replace hB := Nat.le_trans hB hW2.size; replace hM := hM2; clear hM2 hW2; obtain ⟨NX, hNX0⟩ : ∃ n, W2.heap.size = n := ⟨_, rfl⟩; have hNX := hide hNX0; have hNXx : w.heap.size + 2 ≤ NX := hNX0 ▸ hS; clear hNX0) | ((with_reducible refine al_rp NX ?_ ?_); exact hNX.out; intro W hg hb' hz'; have hbc := hNX.out ▸ hb'; have hgO := (fun e => absurd (hM.lt NX e) (by rw [hNX.out]; omega) : ¬ O2 NX); replace hM := hM.bl hbc; replace hW := hW.bl hbc hB; replace hA := hA.bl hbc; replace hB := Nat.le_trans hB hbc.size; replace hS := Nat.le_trans hS hbc.size; replace hr := hr.bl hbc; replace hq := hq.bl hbc; clear hb' hbc) | ((with_reducible refine st_rp NX _ r1 hg ?_ ?_ ?_); exact rfl; exact rfl; intro W hnew ho; have hOLD := hg; replace hr := hr.only ho (by omega); replace hq := hq.only ho (by omega); replace hM := hM.only ho hgO; replace hA := hA.onlyR ho (by omega); replace hW := hW.only ho (by omega) (by omega); replace hS := (show w.heap.size + 2 ≤ W.heap.size by rw [ho.size]; exact hS); replace hB := (show B ≤ W.heap.size by rw [ho.size]; exact hB); replace hg := hnew; clear hnew ho) | ((with_reducible refine st_cn (w.heap.size + 1) _ _ zeroCn nilS rfl hq ?_ ?_ ?_); exact rfl; exact rfl; intro W hnew ho; replace hg := hg.only ho (by omega); replace hr := hr.only ho (by omega); replace hM := hM.only ho (hF.at 1 (by omega)); replace hA := hA.onlyR ho (by omega); replace hW := hW.only ho (by omega) (by omega); replace hS := (show w.heap.size + 2 ≤ W.heap.size by rw [ho.size]; exact hS); replace hB := (show B ≤ W.heap.size by rw [ho.size]; exact hB); replace hq := hnew; clear hnew ho))
  refine bodyPost_ret (results_cell_two' Tryz.results38 _ _ (w.heap.size + 1) _ _ _ rfl hq Tryz.underlying104 rfl size_cn) rfl ?_
  exact ⟨rfl, _, hM, hW⟩
set_option maxHeartbeats 2000000 in
theorem nnext_none (r : Rg) (hr0 : r.Ok) {w : World} {B b p c : Nat} {f : Nat → Nat} {O : Nat → Prop} (h : RamB w B b p f c O) (hA : AreasAt w) (hG : 2 < B) (he : (nextV p f r).2.2.2 = 0) (hi : (nextV p f r).2.2.1 = false) : Calls Tryz.prog 38 #[.agg r.cells, .pointer (some ⟨b, 0, none⟩)] w fun e w' => e = .returned (.tuple #[.agg (zeroCn.c nilS), .bool false, .nilIface]) ∧ ∃ O', RamB w' B b p f c O' ∧ Went B O O' w w' := by
  have HN : Hid (∀ W O1, RamB W B b p f c O1 → AreasAt W → Calls Tryz.prog 79 #[.agg r.cells, .pointer (some ⟨b, 0, none⟩)] W fun e w' => e = .returned (.tuple #[.agg (nextV p f r).1.cells, .int .i64 ((nextV p f r).2.1 : Nat), .bool (nextV p f r).2.2.1, errR (nextV p f r).2.2.2]) ∧ ∃ O', RamB w' B b p f c O' ∧ Went B O1 O' W w') := hide (fun W O1 hM hA => rnext_any r hr0 hM hA hG)
  generalize nextV p f r = nv at *
  obtain ⟨r1, h1, is, en⟩ := nv
  simp only at HN he hi
  subst he hi
  rw [show errR 0 = .nilIface from rfl] at HN
  have hB0 := h.base
  have hGw : 2 < w.heap.size := Nat.lt_of_lt_of_le hG hB0
  have hA0 := hA
  clear hA
  go_enter Tryz.func38, Tryz.ntmps38
  go_wp2_with (first | ((with_reducible refine bx_rp w.heap.size r ?_ ?_ ?_); exact rfl; exact rfl; intro W hr hb hz) | ((with_reducible refine al_cn (w.heap.size + 1) ?_ ?_); exact hz.out; intro W hq hb' hz'; replace hr := hr.bl (hz.out ▸ hb'); replace hb := hb.trans (hb'.mono (by omega)); replace hz := hz'; have hM := h.bl hb; have hW := Went.of (O := O) hb hB0; have hA := hA0.bl hb; have hF := h.far 2; have hS : w.heap.size + 2 ≤ W.heap.size := Nat.le_of_eq hz.out.symm; have hB : B ≤ W.heap.size := Nat.le_trans hB0 hb.size; clear hb hz hb' hz') | ((with_reducible refine ld_rp w.heap.size r hr ?_ ?_ ?_); exact rfl; exact rfl) | (go_at_call 79; (with_reducible refine (HN.out _ _ hM hA).mono ?_); rintro e W2 ⟨rfl, O2, hM2, hW2⟩; replace hr := hW2.row hr (hF.at 0 (by omega)); replace hq := hW2.row hq (hF.at 1 (by omega)); replace hA := hA.wentR hG hW2; replace hF := hF.went hW2 hS; replace hS := Nat.le_trans hS hW2.size; replace hW := hW.trans hW2; replace hB := Nat.le_trans hB hW2.size; replace hM := hM2; clear hM2 hW2; obtain ⟨NX, hNX0⟩ : ∃ n, W2.heap.size = n := ⟨_, rfl⟩; have hNX := hide hNX0; have hNXx : w.heap.size + 2 ≤ NX := hNX0 ▸ hS; clear hNX0) | ((with_reducible refine al_rp NX ?_ ?_); exact hNX.out; intro W hg hb' hz'; have hbc := hNX.out ▸ hb'; have hgO := (fun e => absurd (hM.lt NX e) (by rw [hNX.out]; omega) : ¬ O2 NX); replace hM := hM.bl hbc; replace hW := hW.bl hbc hB; replace hA := hA.bl hbc; replace hB := Nat.le_trans hB hbc.size; replace hS := Nat.le_trans hS hbc.size; replace hr := hr.bl hbc; replace hq := hq.bl hbc; clear hb' hbc) | ((with_reducible refine st_rp NX _ r1 hg ?_ ?_ ?_); exact rfl; exact rfl; intro W hnew ho; have hOLD := hg; replace hr := hr.only ho (by omega); replace hq := hq.only ho (by omega); replace hM := hM.only ho hgO; replace hA := hA.onlyR ho (by omega); replace hW := hW.only ho (by omega) (by omega); replace hS := (show w.heap.size + 2 ≤ W.heap.size by rw [ho.size]; exact hS); replace hB := (show B ≤ W.heap.size by rw [ho.size]; exact hB); replace hg := hnew; clear hnew ho) | ((with_reducible refine st_cn (w.heap.size + 1) _ _ zeroCn nilS rfl hq ?_ ?_ ?_); exact rfl; exact rfl; intro W hnew ho; replace hg := hg.only ho (by omega); replace hr := hr.only ho (by omega); replace hM := hM.only ho (hF.at 1 (by omega)); replace hA := hA.onlyR ho (by omega); replace hW := hW.only ho (by omega) (by omega); replace hS := (show w.heap.size + 2 ≤ W.heap.size by rw [ho.size]; exact hS); replace hB := (show B ≤ W.heap.size by rw [ho.size]; exact hB); replace hq := hnew; clear hnew ho))
  refine bodyPost_ret (results_cell_two' Tryz.results38 _ _ (w.heap.size + 1) _ _ _ rfl hq Tryz.underlying104 rfl size_cn) rfl ?_
  exact ⟨rfl, _, hM, hW⟩
set_option maxHeartbeats 2000000 in
theorem nnext_nw (r : Rg) (hr0 : r.Ok) {w : World} {B b p c : Nat} {f : Nat → Nat} {O : Nat → Prop} (h : RamB w B b p f c O) (hA : AreasAt w) (hG : 2 < B) (he : (nextV p f r).2.2.2 = 0) (hi : (nextV p f r).2.2.1 = true) (hk : walkV p f (nextV p f r).1 ((nextV p f r).2.1 : Nat) = none) : Calls Tryz.prog 38 #[.agg r.cells, .pointer (some ⟨b, 0, none⟩)] w fun e w' => e = .returned (.tuple #[.agg (zeroCn.c nilS), .bool false, .iface 82 (.int .i64 22)]) ∧ ∃ O', RamB w' B b p f c O' ∧ Went B O O' w w' := by
  have HN : Hid (∀ W O1, RamB W B b p f c O1 → AreasAt W → Calls Tryz.prog 79 #[.agg r.cells, .pointer (some ⟨b, 0, none⟩)] W fun e w' => e = .returned (.tuple #[.agg (nextV p f r).1.cells, .int .i64 ((nextV p f r).2.1 : Nat), .bool (nextV p f r).2.2.1, errR (nextV p f r).2.2.2]) ∧ ∃ O', RamB w' B b p f c O' ∧ Went B O1 O' W w') := hide (fun W O1 hM hA => rnext_any r hr0 hM hA hG)
  have HWk : Hid (∀ W O1, RamB W B b p f c O1 → AreasAt W → Calls Tryz.prog 80 #[.agg (nextV p f r).1.cells, .pointer (some ⟨b, 0, none⟩), .int .i64 ((nextV p f r).2.1 : Nat)] W fun e w' => e = .returned (.tuple #[.slice none 0 0, .iface 82 (.int .i64 22)]) ∧ ∃ O', RamB w' B b p f c O' ∧ Went B O1 O' W w') := hide (fun W O1 hM hA => (walk_all (nextV p f r).1 (nextV_is hr0 hi).1 (nextV_is hr0 hi).2 ((nextV p f r).2.1 : Nat) hM hA hG).mono (by
    rintro e w' ⟨O', h1, h2, ⟨_, rfl⟩ | ⟨ps, v, h3, _⟩⟩
    · exact ⟨rfl, O', h1, h2⟩
    · rw [hk] at h3; cases h3))
  clear hk
  generalize nextV p f r = nv at *
  obtain ⟨r1, h1, is, en⟩ := nv
  simp only at HN HWk he hi
  subst he hi
  rw [show errR 0 = .nilIface from rfl] at HN
  have hB0 := h.base
  have hGw : 2 < w.heap.size := Nat.lt_of_lt_of_le hG hB0
  have hA0 := hA
  clear hA
  go_enter Tryz.func38, Tryz.ntmps38
  go_wp2_with (first | ((with_reducible refine bx_rp w.heap.size r ?_ ?_ ?_); exact rfl; exact rfl; intro W hr hb hz) | ((with_reducible refine al_cn (w.heap.size + 1) ?_ ?_); exact hz.out; intro W hq hb' hz'; replace hr := hr.bl (hz.out ▸ hb'); replace hb := hb.trans (hb'.mono (by omega)); replace hz := hz'; have hM := h.bl hb; have hW := Went.of (O := O) hb hB0; have hA := hA0.bl hb; have hF := h.far 2; have hS : w.heap.size + 2 ≤ W.heap.size := Nat.le_of_eq hz.out.symm; have hB : B ≤ W.heap.size := Nat.le_trans hB0 hb.size; clear hb hz hb' hz') | ((with_reducible refine ld_rp w.heap.size r hr ?_ ?_ ?_); exact rfl; exact rfl) | (go_at_call 79; (with_reducible refine (HN.out _ _ hM hA).mono ?_); rintro e W2 ⟨rfl, O2, hM2, hW2⟩; replace hr := hW2.row hr (hF.at 0 (by omega)); replace hq := hW2.row hq (hF.at 1 (by omega)); replace hA := hA.wentR hG hW2; replace hF := hF.went hW2 hS; replace hS := Nat.le_trans hS hW2.size; replace hW := hW.trans hW2; replace hB := Nat.le_trans hB hW2.size; replace hM := hM2; clear hM2 hW2; obtain ⟨NX, hNX0⟩ : ∃ n, W2.heap.size = n := ⟨_, rfl⟩; have hNX := hide hNX0; have hNXx : w.heap.size + 2 ≤ NX := hNX0 ▸ hS; clear hNX0) | ((with_reducible refine al_rp NX ?_ ?_); exact hNX.out; intro W hg hb' hz'; have hbc := hNX.out ▸ hb'; have hgO := (fun e => absurd (hM.lt NX e) (by rw [hNX.out]; omega) : ¬ O2 NX); replace hM := hM.bl hbc; replace hW := hW.bl hbc hB; replace hA := hA.bl hbc; replace hB := Nat.le_trans hB hbc.size; replace hS := Nat.le_trans hS hbc.size; replace hr := hr.bl hbc; replace hq := hq.bl hbc; clear hb' hbc) | ((with_reducible refine st_rp NX _ r1 hg ?_ ?_ ?_); exact rfl; exact rfl; intro W hnew ho; have hOLD := hg; replace hr := hr.only ho (by omega); replace hq := hq.only ho (by omega); replace hM := hM.only ho hgO; replace hA := hA.onlyR ho (by omega); replace hW := hW.only ho (by omega) (by omega); replace hS := (show w.heap.size + 2 ≤ W.heap.size by rw [ho.size]; exact hS); replace hB := (show B ≤ W.heap.size by rw [ho.size]; exact hB); replace hg := hnew; clear hnew ho) | ((with_reducible refine ld_rp NX r1 hg ?_ ?_ ?_); exact rfl; exact rfl) | (go_at_call 80; (with_reducible refine (HWk.out _ _ hM hA).mono ?_); rintro e W2 ⟨rfl, O2, hM2, hW2⟩; (have hNO := hW2.no hg.lt hgO); replace hg := hW2.row hg hgO; (replace hgO := hNO); clear hNO; replace hr := hW2.row hr (hF.at 0 (by omega)); replace hq := hW2.row hq (hF.at 1 (by omega)); replace hA := hA.wentR hG hW2; replace hF := hF.went hW2 hS; replace hS := Nat.le_trans hS hW2.size; replace hW := hW.trans hW2; replace hB := Nat.le_trans hB hW2.size; replace hM := hM2; clear hM2 hW2) | ((with_reducible refine st_cn (w.heap.size + 1) _ _ zeroCn nilS rfl hq ?_ ?_ ?_); exact rfl; exact rfl; intro W hnew ho; replace hg := hg.only ho (by omega); replace hr := hr.only ho (by omega); replace hM := hM.only ho (hF.at 1 (by omega)); replace hA := hA.onlyR ho (by omega); replace hW := hW.only ho (by omega) (by omega); replace hS := (show w.heap.size + 2 ≤ W.heap.size by rw [ho.size]; exact hS); replace hB := (show B ≤ W.heap.size by rw [ho.size]; exact hB); replace hq := hnew; clear hnew ho))
  refine bodyPost_ret (results_cell_two' Tryz.results38 _ _ (w.heap.size + 1) _ _ _ rfl hq Tryz.underlying104 rfl size_cn) rfl ?_
  exact ⟨rfl, _, hM, hW⟩
set_option maxHeartbeats 2000000 in
theorem nnext_ok (r : Rg) (hr0 : r.Ok) {w : World} {B b p c : Nat} {f : Nat → Nat} {O : Nat → Prop} (h : RamB w B b p f c O) (hA : AreasAt w) (hG : 2 < B) (he : (nextV p f r).2.2.2 = 0) (hi : (nextV p f r).2.2.1 = true) (ps : List Sg) (hk : walkV p f (nextV p f r).1 ((nextV p f r).2.1 : Nat) = some ps) : Calls Tryz.prog 38 #[.agg r.cells, .pointer (some ⟨b, 0, none⟩)] w fun e w' => ∃ lv, e = .returned (.tuple #[.agg ((⟨(nextV p f r).1, ((nextV p f r).2.1 : Nat)⟩ : Cn).c lv), .bool true, .nilIface]) ∧ ∃ O', RamB w' B b p f c O' ∧ Went B O O' w w' ∧ w'.ownsRow w.heap.size 193 3 lv ps.length (segL ps) ∧ ∀ g, lv.ownBlock = some g → ¬ O' g := by
  have HN : Hid (∀ W O1, RamB W B b p f c O1 → AreasAt W → Calls Tryz.prog 79 #[.agg r.cells, .pointer (some ⟨b, 0, none⟩)] W fun e w' => e = .returned (.tuple #[.agg (nextV p f r).1.cells, .int .i64 ((nextV p f r).2.1 : Nat), .bool (nextV p f r).2.2.1, errR (nextV p f r).2.2.2]) ∧ ∃ O', RamB w' B b p f c O' ∧ Went B O1 O' W w') := hide (fun W O1 hM hA => rnext_any r hr0 hM hA hG)
  have HWk : Hid (∀ W O1, RamB W B b p f c O1 → AreasAt W → Calls Tryz.prog 80 #[.agg (nextV p f r).1.cells, .pointer (some ⟨b, 0, none⟩), .int .i64 ((nextV p f r).2.1 : Nat)] W fun e w' => ∃ lv, e = .returned (.tuple #[lv, .nilIface]) ∧ ∃ O', RamB w' B b p f c O' ∧ Went B O1 O' W w' ∧ w'.ownsRow W.heap.size 193 3 lv ps.length (segL ps) ∧ ∀ g, lv.ownBlock = some g → ¬ O' g) := hide (fun W O1 hM hA => (walk_all (nextV p f r).1 (nextV_is hr0 hi).1 (nextV_is hr0 hi).2 ((nextV p f r).2.1 : Nat) hM hA hG).mono (by
    rintro e w' ⟨O', h1, h2, ⟨h3, _⟩ | ⟨ps', v, h3, rfl, h4, h5⟩⟩
    · rw [hk] at h3; cases h3
    · rw [hk] at h3; cases h3; exact ⟨v, rfl, O', h1, h2, h4, h5⟩))
  clear hk
  generalize nextV p f r = nv at *
  obtain ⟨r1, h1, is, en⟩ := nv
  simp only at HN HWk he hi ⊢
  subst he hi
  rw [show errR 0 = .nilIface from rfl] at HN
  have hB0 := h.base
  have hGw : 2 < w.heap.size := Nat.lt_of_lt_of_le hG hB0
  have hA0 := hA
  clear hA
  go_enter Tryz.func38, Tryz.ntmps38
  go_wp2_with (first | ((with_reducible refine bx_rp w.heap.size r ?_ ?_ ?_); exact rfl; exact rfl; intro W hr hb hz) | ((with_reducible refine al_cn (w.heap.size + 1) ?_ ?_); exact hz.out; intro W hq hb' hz'; replace hr := hr.bl (hz.out ▸ hb'); replace hb := hb.trans (hb'.mono (by omega)); replace hz := hz'; have hM := h.bl hb; have hW := Went.of (O := O) hb hB0; have hA := hA0.bl hb; have hF := h.far 2; have hS : w.heap.size + 2 ≤ W.heap.size := Nat.le_of_eq hz.out.symm; have hB : B ≤ W.heap.size := Nat.le_trans hB0 hb.size; clear hb hz hb' hz') | ((with_reducible refine ld_rp w.heap.size r hr ?_ ?_ ?_); exact rfl; exact rfl) | (go_at_call 79; (with_reducible refine (HN.out _ _ hM hA).mono ?_); rintro e W2 ⟨rfl, O2, hM2, hW2⟩; replace hr := hW2.row hr (hF.at 0 (by omega)); replace hq := hW2.row hq (hF.at 1 (by omega)); replace hA := hA.wentR hG hW2; replace hF := hF.went hW2 hS; replace hS := Nat.le_trans hS hW2.size; replace hW := hW.trans hW2; replace hB := Nat.le_trans hB hW2.size; replace hM := hM2; clear hM2 hW2; obtain ⟨NX, hNX0⟩ : ∃ n, W2.heap.size = n := ⟨_, rfl⟩; have hNX := hide hNX0; have hNXx : w.heap.size + 2 ≤ NX := hNX0 ▸ hS; clear hNX0) | ((with_reducible refine al_rp NX ?_ ?_); exact hNX.out; intro W hg hb' hz'; have hbc := hNX.out ▸ hb'; have hgO := (fun e => absurd (hM.lt NX e) (by rw [hNX.out]; omega) : ¬ O2 NX); replace hM := hM.bl hbc; replace hW := hW.bl hbc hB; replace hA := hA.bl hbc; replace hB := Nat.le_trans hB hbc.size; replace hS := Nat.le_trans hS hbc.size; replace hr := hr.bl hbc; replace hq := hq.bl hbc; clear hb' hbc) | ((with_reducible refine st_rp NX _ r1 hg ?_ ?_ ?_); exact rfl; exact rfl; intro W hnew ho; have hOLD := hg; replace hr := hr.only ho (by omega); replace hq := hq.only ho (by omega); replace hM := hM.only ho hgO; replace hA := hA.onlyR ho (by omega); replace hW := hW.only ho (by omega) (by omega); replace hS := (show w.heap.size + 2 ≤ W.heap.size by rw [ho.size]; exact hS); replace hB := (show B ≤ W.heap.size by rw [ho.size]; exact hB); replace hg := hnew; clear hnew ho) | ((with_reducible refine ld_rp NX r1 hg ?_ ?_ ?_); exact rfl; exact rfl) | (go_at_call 80; (with_reducible refine (HWk.out _ _ hM hA).mono ?_); rintro e W2 ⟨lv, rfl, O2, hM2, hW2, hl0, hln⟩; have hl : W2.ownsRow w.heap.size 193 3 lv ps.length (segL ps) := own_lower2 hl0 (by omega); have hlb := fun g e => (hl0.lt g e).1; clear hl0; obtain ⟨lva, lvc, rfl, _, _⟩ := own_form hl; (have hNO := hW2.no hg.lt hgO); replace hg := hW2.row hg hgO; (replace hgO := hNO); clear hNO; replace hr := hW2.row hr (hF.at 0 (by omega)); replace hq := hW2.row hq (hF.at 1 (by omega)); replace hA := hA.wentR hG hW2; replace hF := hF.went hW2 hS; replace hS := Nat.le_trans hS hW2.size; replace hW := hW.trans hW2; replace hB := Nat.le_trans hB hW2.size; replace hM := hM2; clear hM2 hW2) | ((with_reducible refine bd_cn r1 ((h1 : Nat) : Int) lva ps.length lvc ?_ ?_ ?_ ?_); exact rfl; exact rfl; exact rfl) | ((with_reducible refine st_cn (w.heap.size + 1) _ _ ⟨r1, ((h1 : Nat) : Int)⟩ (.slice lva ps.length lvc) (own_one hl) hq ?_ ?_ ?_); exact rfl; exact rfl; intro W hnew ho; replace hl := own_only hl ho (fun e => absurd (own_ty hl e hq) (by decide)); replace hg := hg.only ho (by omega); replace hr := hr.only ho (by omega); replace hM := hM.only ho (hF.at 1 (by omega)); replace hA := hA.onlyR ho (by omega); replace hW := hW.only ho (by omega) (by omega); replace hS := (show w.heap.size + 2 ≤ W.heap.size by rw [ho.size]; exact hS); replace hB := (show B ≤ W.heap.size by rw [ho.size]; exact hB); replace hq := hnew; clear hnew ho))
  refine bodyPost_ret (results_cell_two' Tryz.results38 _ _ (w.heap.size + 1) _ _ _ rfl hq Tryz.underlying104 rfl size_cn) rfl ?_
  exact ⟨_, rfl, _, hM, hW, hl, hln⟩
theorem nnext_any (r : Rg) (hr0 : r.Ok) {w : World} {B b p c : Nat} {f : Nat → Nat} {O : Nat → Prop} (h : RamB w B b p f c O) (hA : AreasAt w) (hG : 2 < B) : Calls Tryz.prog 38 #[.agg r.cells, .pointer (some ⟨b, 0, none⟩)] w fun e w' => ∃ O', RamB w' B b p f c O' ∧ Went B O O' w w' ∧ (((ncNext p f r).2 = none ∧ e = .returned (.tuple #[.agg (zeroCn.c nilS), .bool false, errR (ncNext p f r).1])) ∨ ∃ cn ps lv, ncNext p f r = (0, some (cn, ps)) ∧ PartsOk p ps ∧ e = .returned (.tuple #[.agg (cn.c lv), .bool true, .nilIface]) ∧ w'.ownsRow w.heap.size 193 3 lv ps.length (segL ps) ∧ ∀ g, lv.ownBlock = some g → ¬ O' g) := by
  unfold ncNext
  by_cases he : (nextV p f r).2.2.2 = 0
  · rw [if_pos he]
    cases hi : (nextV p f r).2.2.1 with
    | false =>
      rw [if_neg (by decide)]
      refine (nnext_none r hr0 h hA hG he hi).mono ?_
      rintro e w' ⟨rfl, O', h1, h2⟩
      exact ⟨O', h1, h2, .inl ⟨rfl, rfl⟩⟩
    | true =>
      rw [if_pos rfl]
      cases hk : walkV p f (nextV p f r).1 ((nextV p f r).2.1 : Nat) with
      | none =>
        refine (nnext_nw r hr0 h hA hG he hi hk).mono ?_
        rintro e w' ⟨rfl, O', h1, h2⟩
        exact ⟨O', h1, h2, .inl ⟨rfl, rfl⟩⟩
      | some ps =>
        have hP := walk_parts h.small (nextV_is hr0 hi).2 hk
        refine (nnext_ok r hr0 h hA hG he hi ps hk).mono ?_
        rintro e w' ⟨lv, rfl, O', h1, h2, h3, h4⟩
        exact ⟨O', h1, h2, .inr ⟨_, ps, lv, rfl, hP, rfl, h3, h4⟩⟩
  · rw [if_neg he]
    refine (nnext_err r hr0 h hA hG he).mono ?_
    rintro e w' ⟨rfl, O', h1, h2⟩
    exact ⟨O', h1, h2, .inl ⟨rfl, rfl⟩⟩
end Go.Proofs.YtbggkoahofnnjaaGreatDoor
namespace Go.Proofs.YtbggkoahofnnjaaGreatDoor
open Go.RowKit
set_option linter.unusedVariables false
set_option linter.unusedSimpArgs false

/-- A frame in a chain's bytes: behind the head. -/
structure FrAt (w : World) (B : Nat) (O : Nat → Prop) (fr : List Nat) (dv : Value) : Prop where
  ex : ∃ g cap all, dv = .slice (some ⟨g, 12, none⟩) (all.length - 12) (cap - 12) ∧ all.length ≤ cap ∧ w.ownsRow B 5 1 (.slice (some ⟨g, 0, none⟩) all.length cap) all.length (byteV all) ∧ 12 < all.length ∧ fr = all.drop 12 ∧ ¬ O g ∧ ∀ y ∈ all, y < 256
set_option maxHeartbeats 2000000 in
theorem nframe_no (cn : Cn) (ps : List Sg) {lv : Value} {Bl : Nat} {w : World} {B b p c : Nat} {f : Nat → Nat} {O : Nat → Prop} (h : RamB w B b p f c O) (hA : AreasAt w) (hG : 2 < B) (hL : w.ownsRow Bl 193 3 lv ps.length (segL ps)) (hP : PartsOk p ps) (hfr : ncFrame f ps = none) : Calls Tryz.prog 40 #[.agg (cn.c lv), .pointer (some ⟨b, 0, none⟩)] w fun e w' => e = .returned (.tuple #[.slice none 0 0, .iface 82 (.int .i64 2)]) ∧ ∃ O', RamB w' B b p f c O' ∧ Went B O O' w w' := by
  obtain ⟨R0, R1⟩ := hP.rooms false
  have HR : Hid (∀ W, W.ownsRow Bl 193 3 lv ps.length (segL ps) → Calls Tryz.prog 54 #[lv] W fun e w' => e = .returned (.tuple #[.int .i64 (sumR false ps : Nat), .int .i64 (roomV true 0 ps)]) ∧ Below W.heap.size W w') := hide (fun W hL => by have := room_any ps (by have := hP.len; omega) (fun g hg => (hP.ok g hg).1) hL; rw [R0] at this; exact this)
  have hq : isFr ((sumR false ps : Nat) - 12 : Int) = false := by
    unfold ncFrame at hfr
    rw [R0] at hfr
    cases h : isFr ((sumR false ps : Nat) - 12 : Int) with
    | false => rfl
    | true => rw [h] at hfr; simp at hfr
  clear hfr hP R0
  generalize sumR false ps = R at *
  generalize roomV true 0 ps = RT at *
  have HI : Hid (∀ W, Calls Tryz.prog 51 #[.int .i64 ((R : Int) - 12)] W fun e w' => e = .returned (.bool false) ∧ w' = W) := hide (fun W => by have := isfr_any ((R : Int) - 12) W; rw [hq] at this; exact this)
  clear hq
  have e1 : IntKind.i64.wrap ((R : Int) - 12) = (R : Int) - 12 := by rw [IntKind.wrap_i64]; omega
  have e2 : wrap64 ((R : Int) - 12) = (R : Int) - 12 := by unfold wrap64; omega
  have hB0 := h.base
  have hGw : 2 < w.heap.size := Nat.lt_of_lt_of_le hG hB0
  have hA0 := hA
  clear hA
  go_enter Tryz.func40, Tryz.ntmps40
  go_wp2_with (first | ((with_reducible refine bx_cn w.heap.size cn lv ?_ ?_ ?_); exact rfl; exact rfl; intro W hk hb hz; have hM := h.bl hb; have hW := Went.of (O := O) hb hB0; have hA := hA0.bl hb; have hF := h.far 1; have hS : w.heap.size + 1 ≤ W.heap.size := Nat.le_of_eq hz.out.symm; have hB : B ≤ W.heap.size := Nat.le_trans hB0 hb.size; replace hL := own_bel hL hb; clear hb hz) | ((with_reducible refine ld_cps w.heap.size cn lv _ hk ?_ ?_ ?_); exact rfl; exact rfl) | (go_at_call 54; (with_reducible refine (HR.out _ hL).mono ?_); rintro e W ⟨rfl, hbc⟩; replace hM := hM.bl hbc; replace hW := hW.bl hbc hB; replace hA := hA.bl hbc; replace hB := Nat.le_trans hB hbc.size; replace hS := Nat.le_trans hS hbc.size; replace hk := hk.bl hbc; replace hL := own_bel hL hbc) | (go_at_call 51; (with_reducible refine (HI.out _).mono ?_); rintro e W2 ⟨rfl, rfl⟩))
  go_ret2
  exact ⟨rfl, _, hM, hW⟩
set_option maxHeartbeats 2000000 in
theorem nframe_ok (cn : Cn) (ps : List Sg) {lv : Value} {Bl : Nat} {w : World} {B b p c : Nat} {f : Nat → Nat} {O : Nat → Prop} (h : RamB w B b p f c O) (hA : AreasAt w) (hG : 2 < B) (hL : w.ownsRow Bl 193 3 lv ps.length (segL ps)) (hP : PartsOk p ps) (fr : List Nat) (hfr : ncFrame f ps = some fr) : Calls Tryz.prog 40 #[.agg (cn.c lv), .pointer (some ⟨b, 0, none⟩)] w fun e w' => ∃ dv, e = .returned (.tuple #[dv, .nilIface]) ∧ ∃ O', RamB w' B b p f c O' ∧ Went B O O' w w' ∧ FrAt w' w.heap.size O' fr dv := by
  obtain ⟨R0, R1⟩ := hP.rooms false
  have HR : Hid (∀ W, W.ownsRow Bl 193 3 lv ps.length (segL ps) → Calls Tryz.prog 54 #[lv] W fun e w' => e = .returned (.tuple #[.int .i64 (sumR false ps : Nat), .int .i64 (roomV true 0 ps)]) ∧ Below W.heap.size W w') := hide (fun W hL => by have := room_any ps (by have := hP.len; omega) (fun g hg => (hP.ok g hg).1) hL; rw [R0] at this; exact this)
  have hq : isFr ((sumR false ps : Nat) - 12 : Int) = true ∧ fr = (gathF f (partsV false 9223372036854775807 ps)).drop 12 := by
    unfold ncFrame at hfr
    rw [R0] at hfr
    cases h : isFr ((sumR false ps : Nat) - 12 : Int) with
    | false => rw [h] at hfr; simp at hfr
    | true => rw [h] at hfr; simp at hfr; exact ⟨rfl, hfr.symm⟩
  obtain ⟨hq, rfl⟩ := hq
  clear hfr
  have hgl : (gathF f (partsV false 9223372036854775807 ps)).length = sumR false ps := gath_len f ps 9223372036854775807 (fun s hs => (hP.ok s hs).2) (by omega)
  have hgs := hide (gathF_small h.small (partsV false 9223372036854775807 ps))
  have HG : Hid (∀ W O1, RamB W B b p f c O1 → AreasAt W → W.ownsRow Bl 193 3 lv ps.length (segL ps) → Calls Tryz.prog 82 #[.pointer (some ⟨b, 0, none⟩), lv] W fun e w' => ∃ O' v', e = .returned (.tuple #[v', .nilIface]) ∧ RamB w' B b p f c O' ∧ Went B O1 O' W w' ∧ w'.ownsRow W.heap.size 5 1 v' (sumR false ps) (byteV (gathF f (partsV false 9223372036854775807 ps))) ∧ ∀ g, v'.ownBlock = some g → ¬ O' g) := hide (fun W O1 hM hA hL => by
    have := gath_ok ps (by have := hP.len; omega) (fun g hg => (hP.ok g hg).1) hM hA hG hL (parts_inS false ps _ hP.ins)
    rw [hgl] at this
    exact this)
  clear hP R0
  have HGL := hide hgl
  clear hgl
  generalize gathF f (partsV false 9223372036854775807 ps) = all at *
  generalize sumR false ps = R at *
  generalize roomV true 0 ps = RT at *
  have HI : Hid (∀ W, Calls Tryz.prog 51 #[.int .i64 ((R : Int) - 12)] W fun e w' => e = .returned (.bool true) ∧ w' = W) := hide (fun W => by have := isfr_any ((R : Int) - 12) W; rw [hq] at this; exact this)
  simp only [isFr, Bool.and_eq_true, decide_eq_true_eq] at hq
  obtain ⟨q1, q2⟩ := hq
  have q3 : 13 ≤ R := by omega
  clear q1
  have e1 : IntKind.i64.wrap ((R : Int) - 12) = (R : Int) - 12 := by rw [IntKind.wrap_i64]; omega
  have e2 : wrap64 ((R : Int) - 12) = (R : Int) - 12 := by unfold wrap64; omega
  have hB0 := h.base
  have hGw : 2 < w.heap.size := Nat.lt_of_lt_of_le hG hB0
  have hA0 := hA
  clear hA
  go_enter Tryz.func40, Tryz.ntmps40
  go_wp2_with (first | ((with_reducible refine bx_cn w.heap.size cn lv ?_ ?_ ?_); exact rfl; exact rfl; intro W hk hb hz; have hM := h.bl hb; have hW := Went.of (O := O) hb hB0; have hA := hA0.bl hb; have hF := h.far 1; have hS : w.heap.size + 1 ≤ W.heap.size := Nat.le_of_eq hz.out.symm; have hB : B ≤ W.heap.size := Nat.le_trans hB0 hb.size; replace hL := own_bel hL hb; clear hb hz) | ((with_reducible refine ld_cps w.heap.size cn lv _ hk ?_ ?_ ?_); exact rfl; exact rfl) | (go_at_call 54; (with_reducible refine (HR.out _ hL).mono ?_); rintro e W ⟨rfl, hbc⟩; replace hM := hM.bl hbc; replace hW := hW.bl hbc hB; replace hA := hA.bl hbc; replace hB := Nat.le_trans hB hbc.size; replace hS := Nat.le_trans hS hbc.size; replace hk := hk.bl hbc; replace hL := own_bel hL hbc) | (go_at_call 51; (with_reducible refine (HI.out _).mono ?_); rintro e W2 ⟨rfl, rfl⟩) | (go_at_call 82; (with_reducible refine (HG.out _ _ hM hA hL).mono ?_); rintro e W2 ⟨O2, gv, rfl, hM2, hW2, hY, hYn⟩; replace hY := own_lower2 hY (show w.heap.size ≤ _ by omega); obtain ⟨gb, gc, gcur, rfl, hg1, hg2, _, _, _, _⟩ := own_row hY (show 0 < R by omega); (have i1 : (12 : Int) ≤ (R : Int) := by omega); (have i2 : ¬ (gc : Int) = 12 := by omega); (have i3 : ¬ gc = 12 := by omega); clear hL; replace hk := hW2.row hk (hF.at 0 (by omega)); replace hA := hA.wentR hG hW2; replace hF := hF.went hW2 hS; replace hS := Nat.le_trans hS hW2.size; replace hW := hW.trans hW2; replace hB := Nat.le_trans hB hW2.size; replace hM := hM2; clear hM2 hW2))
  go_ret2
  have hl := HGL.out
  refine ⟨_, rfl, _, hM, hW, ⟨gb, gc, all, ?_, by omega, by rw [hl]; exact hY, by omega, rfl, hYn gb rfl, hgs.out⟩⟩
  rw [hl]
  first | rfl | (congr 1 <;> omega)
end Go.Proofs.YtbggkoahofnnjaaGreatDoor
namespace Go.Proofs.YtbggkoahofnnjaaGreatDoor
open Go.RowKit
set_option linter.unusedVariables false
set_option linter.unusedSimpArgs false

structure FrsAt (w : World) (B : Nat) (O : Nat → Prop) (ov : Value) (l : List (List Nat × Value)) : Prop where
  row : w.ownsRow B 60 1 ov l.length (l.map (·.2))
  dat : ∀ x ∈ l, FrAt w B O x.1 x.2
  far : ∀ g, ov.ownBlock = some g → ¬ O g
theorem FrAt.one {w : World} {B : Nat} {O : Nat → Prop} {k : List Nat} {dv : Value} (h : FrAt w B O k dv) : dv.oneCell' = true := by
  obtain ⟨_, _, _, rfl, _⟩ := h.ex; rfl
theorem FrAt.keep {w W : World} {B : Nat} {O O' : Nat → Prop} {k : List Nat} {dv : Value} (h : FrAt w B O k dv) (hk : ∀ g cs, RowAt w g cs 5 → ¬ O g → W.heap[g]? = w.heap[g]? ∧ ¬ O' g) : FrAt W B O' k dv := by
  obtain ⟨g, cap, all, e1, e0, e2, e3, e4, e5, e6⟩ := h.ex
  obtain ⟨g', cap', cur, hve, _, _, _, hr, _, _⟩ := own_row e2 (by omega)
  injection hve with q1 q2 q3
  cases q1
  obtain ⟨k1, k2⟩ := hk g cur hr e5
  exact ⟨g, cap, all, e1, e0, own_at e2 (fun x hx => by cases hx; exact k1), e3, e4, k2, e6⟩
theorem FrAt.lower {w : World} {B B' : Nat} {O : Nat → Prop} {k : List Nat} {dv : Value} (h : FrAt w B O k dv) (hB : B' ≤ B) : FrAt w B' O k dv := by
  obtain ⟨g, cap, all, e1, e0, e2, e3⟩ := h.ex
  exact ⟨g, cap, all, e1, e0, own_lower2 e2 hB, e3⟩
theorem FrAt.bl {w W : World} {B : Nat} {O : Nat → Prop} {k : List Nat} {dv : Value} (h : FrAt w B O k dv) (hb : Below w.heap.size w W) : FrAt W B O k dv := h.keep (fun g cs hr hn => ⟨hb.block g hr.lt, hn⟩)
theorem FrsAt.rowT {w : World} {B : Nat} {O : Nat → Prop} {ov : Value} {l : List (List Nat × Value)} (h : FrsAt w B O ov l) : ∀ g, ov.ownBlock = some g → ∃ cs, RowAt w g cs 60 := fun g hg => by
  rcases h.row.2 with ⟨h1, _⟩ | ⟨g', cap, cur, h1, _, h3, _⟩
  · rw [h1] at hg; cases hg
  · rw [h1] at hg; cases hg; exact ⟨cur, h3⟩
theorem FrsAt.keep {w W : World} {B : Nat} {O O' : Nat → Prop} {ov : Value} {l : List (List Nat × Value)} (h : FrsAt w B O ov l) (hk : ∀ g cs t, RowAt w g cs t → (t = 5 ∨ t = 60) → ¬ O g → W.heap[g]? = w.heap[g]? ∧ ¬ O' g) : FrsAt W B O' ov l := by
  refine ⟨own_at h.row (fun g hg => ?_), fun x hx => (h.dat x hx).keep (fun g cs hr hn => hk g cs _ hr (.inl rfl) hn), fun g hg => ?_⟩
  · obtain ⟨cs, hr⟩ := h.rowT g hg
    exact (hk g cs _ hr (.inr rfl) (h.far g hg)).1
  · obtain ⟨cs, hr⟩ := h.rowT g hg
    exact (hk g cs _ hr (.inr rfl) (h.far g hg)).2
theorem FrsAt.bl {w W : World} {B : Nat} {O : Nat → Prop} {ov : Value} {l : List (List Nat × Value)} (h : FrsAt w B O ov l) (hb : Below w.heap.size w W) : FrsAt W B O ov l :=
  h.keep (fun g cs t hr _ hn => ⟨hb.block g hr.lt, hn⟩)
theorem FrsAt.wentX {w W : World} {B Bm : Nat} {O O' : Nat → Prop} {ov : Value} {l : List (List Nat × Value)} (h : FrsAt w B O ov l) (hw : Went Bm O O' w W) : FrsAt W B O' ov l :=
  h.keep (fun g cs t hr _ hn => ⟨hw.other g hr.lt hn, hw.no hr.lt hn⟩)
theorem FrsAt.only {w W : World} {B g : Nat} {O : Nat → Prop} {ov : Value} {l : List (List Nat × Value)} {cs : Array Value} {t : TypeId} (h : FrsAt w B O ov l) (ho : Only g w W) (hr : RowAt w g cs t) (h1 : t ≠ 5) (h2 : t ≠ 60) : FrsAt W B O ov l :=
  h.keep (fun x cx tx hx ht hn => ⟨ho.row x (fun e => by
    subst e
    have := hr.symm.trans hx
    simp at this
    rcases ht with q | q
    · exact h1 (this.2.trans q)
    · exact h2 (this.2.trans q)), hn⟩)
theorem FrsAt.lower {w : World} {B B' : Nat} {O : Nat → Prop} {ov : Value} {l : List (List Nat × Value)} (h : FrsAt w B O ov l) (hB : B' ≤ B) : FrsAt w B' O ov l :=
  ⟨own_lower2 h.row hB, fun x hx => (h.dat x hx).lower hB, h.far⟩
theorem FrsAt.nil (w : World) (B : Nat) (O : Nat → Prop) : FrsAt w B O (.slice none 0 0) [] :=
  ⟨World.ownsRow_nil _ _ _ _, (fun x hx => by cases hx), (fun g hg => by cases hg)⟩
theorem FrsAt.app {w W : World} {B : Nat} {O : Nat → Prop} {ov ov' dv : Value} {l : List (List Nat × Value)} {fr : List Nat} (h : FrsAt w B O ov l) (hr : W.ownsRow B 60 1 ov' (l.length + 1) ((l ++ [(fr, dv)]).map (·.2))) (hg : w.grownBy W ov.ownBlock) (hbk : ov'.ownBlock = ov.ownBlock ∨ ov'.ownBlock = some w.heap.size) (hO : ∀ x, O x → x < w.heap.size) (hd : FrAt w B O fr dv) : FrsAt W B O ov' (l ++ [(fr, dv)]) := by
  have hkeep : ∀ g cs, RowAt w g cs 5 → W.heap[g]? = w.heap[g]? := fun g cs hr => hg.block g hr.lt (fun k => by
    have := own_ty h.row k.symm hr
    exact absurd this (by decide))
  refine ⟨by rw [List.length_append]; exact hr, fun x hx => ?_, fun g e => ?_⟩
  · rcases List.mem_append.1 hx with h1 | h1
    · exact (h.dat x h1).keep (fun g cs hr hn => ⟨hkeep g cs hr, hn⟩)
    · rw [List.mem_singleton.1 h1]; exact hd.keep (fun g cs hr hn => ⟨hkeep g cs hr, hn⟩)
  · rcases hbk with k | k
    · exact h.far g (k ▸ e)
    · rw [k] at e; cases e; exact fun k => absurd (hO _ k) (by omega)
theorem info_sb : ∃ i, Tryz.prog.info? 60 = some i ∧ i.zero = some (.slice none 0 0) ∧ i.size = 1 ∧ i.bytes = 24 := info_parts (P := Tryz.prog) (e := 60) (z := .slice none 0 0) (size := 1) (bytes := 24) (by kernel_rfl)
variable {ops : Array Oper} {rest : List Oper} {dst : Option Tmp} {ty : TypeId} {pos : String} {after : Array Edge} {a : Act} {w : World} {Q : Exit → Act → World → Prop} {x y : Operand} {B : Nat} {O : Nat → Prop} {ov dv : Value} {l : List (List Nat × Value)} {fr : List Nat}
theorem bs_fr (N : Nat) (hN : w.heap.size = N) (da : Option Addr) (dn dc : Nat) (hx : a.eval x = .slice da dn dc)
    (k : ∀ W, RowAt W N #[.slice da dn dc] 60 → Below N w W → Hid (W.heap.size = N + 1) → wpList Tryz.prog ops Q rest (a.put dst (.slice (some ⟨N, 0, none⟩) 1 1)) W) :
    wpList Tryz.prog ops Q (⟨dst, .buildSlice 66 1 #[(0, x)], ty, pos, after, none⟩ :: rest) a w :=
  op_bsn 66 60 1 Tryz.underlying66 #[.slice da dn dc] N hN [(0, .slice da dn dc)] (by simp [hx]) ⟨by kernel_rfl⟩ k
theorem app_fr (h : FrsAt w B O ov l) (hd : FrAt w B O fr dv) (s : Nat) (hs : RowAt w s #[dv] 60) (hl : l.length ≤ 1000) (hB : B ≤ w.heap.size) (hO : ∀ x, O x → x < w.heap.size) (hx : a.eval x = ov) (hy : a.eval y = .slice (some ⟨s, 0, none⟩) 1 1)
    (k : ∀ W ov', FrsAt W B O ov' (l ++ [(fr, dv)]) → w.grownBy W ov.ownBlock → wpList Tryz.prog ops Q rest (a.put dst ov') W) :
    wpList Tryz.prog ops Q (⟨dst, .call { callee := .builtin .append, args := #[x, y], argTypes := #[66, 66] }, 66, pos, after, none⟩ :: rest) a w := by
  obtain ⟨i, h1, h2, h3, h4⟩ := info_sb
  refine op_appl 66 60 i _ 1 24 Tryz.underlying66 h1 h2 h3 h4 rfl (by decide) h.row ⟨s, 0, none⟩ 1 1 [dv] rfl ?_ (fun u hu => by rw [List.mem_singleton.1 hu]; exact hd.one) (by unfold maxLen; omega) (by omega) hB hx hy ?_
  · intro j u hu
    have hj0 : j < 1 := by have := (List.getElem?_eq_some_iff.1 hu).1; simpa using this
    (obtain rfl : j = 0 := by omega)
    rw [Addr.add_lit, Nat.zero_add, hs.cell 0]
    simpa using hu
  · intro W v' q1 q2 q3
    exact k W v' (h.app (by rw [List.map_append]; exact q1) q2 q3 hO hd) q2
end Go.Proofs.YtbggkoahofnnjaaGreatDoor
namespace Go.Proofs.YtbggkoahofnnjaaGreatDoor
open Go.RowKit
set_option linter.unusedVariables false
set_option linter.unusedSimpArgs false

theorem built_nc (s : Nc) : Tryz.prog.built 41 [(0, .agg s.p.cells), (1, .bool s.be), (2, .int .u32 (s.lo : Nat))] = some s.c := by kernel_rfl
theorem y_bdn {ops : Array Oper} {dst : Option Tmp} {ty : TypeId} {pos : String} {after : Array Edge} {a : Act} {S : World → Prop} {x0 x1 x2 : Operand} (s : Nc) (h0 : a.eval x0 = .agg s.p.cells) (h1 : a.eval x1 = .bool s.be) (h2 : a.eval x2 = .int .u32 (s.lo : Nat)) :
    YieldsIf Tryz.prog ops S ⟨dst, .build 41 #[(0, x0), (1, x1), (2, x2)], ty, pos, after, none⟩ (.agg s.c) a := y_bdv _ s.c (built_nc s) (by simp [h0, h1, h2])
set_option maxHeartbeats 2000000 in
theorem gnic_any (s : Nc) (w : World) : Calls Tryz.prog 7 #[.agg s.c] w fun e w' => e = .returned (.agg s.c) ∧ Below w.heap.size w w' := by
  have HG := hide (fun w => gport_any s.p w)
  go_enter Tryz.func7, Tryz.ntmps7
  go_wp2_with (first | ((with_reducible refine bx_nf w.heap.size s ?_ ?_ ?_); exact rfl; exact rfl; intro W hr hb hz) | ((with_reducible refine al_nc (w.heap.size + 1) ?_ ?_); exact hz.out; intro W hq hb' hz'; replace hr := hr.bl (hz.out ▸ hb'); replace hb := hb.trans (hb'.mono (by omega)); clear hz hb' hz'))
  refine wp_region_held_drew (S := (fun V => RowAt V w.heap.size s.c 33)) (by kernel_rfl) ?_ (fun hHeld => ?_)
  · exact hr.dr
  replace hq := hq.dr
  replace hb := hb.drew
  generalize World.drew _ = V at hHeld hq hb ⊢
  clear hr
  refine wpAnyH_take (i := 0) (oi := ?oi1) (v := .pointer (some ⟨w.heap.size, 0, none⟩)) ?hi1 (by kernel_rfl) (by kernel_rfl) (by kernel_rfl) ?hQ1 ?hy1 (by assumption) ?rest1
  case hi1 => (simp only [List.getElem?_toArray, List.getElem?_cons_zero]; rfl)
  case hQ1 => exact fun _ _ _ h => h
  case hy1 => exact Or.inl ⟨by rfl, by (intro w hSw; (try dsimp only at hSw); go_simp )⟩
  simp only [Act.put, List.setIfInBounds_toArray, List.set_cons_zero, List.set_cons_succ]
  refine wpAnyH_take (i := 1) (oi := ?oi2) (v := .agg s.p.cells) ?hi2 (by kernel_rfl) (by kernel_rfl) (by kernel_rfl) ?hQ2 ?hy2 (by assumption) ?rest2
  case hi2 => (simp only [List.getElem?_toArray, List.getElem?_cons_zero, List.getElem?_cons_succ]; rfl)
  case hQ2 => exact fun _ _ _ h => h
  case hy2 => exact y_midv w.heap.size 0 s.c s.p.cells _ (fun V hV => hV) (by kernel_rfl) _ Tryz.underlying31 rfl size_vr rfl
  simp only [Act.put, List.setIfInBounds_toArray, List.set_cons_zero, List.set_cons_succ]
  refine wpAnyH_take (i := 3) (oi := ?oi3) (v := .pointer (some ⟨w.heap.size, 21, none⟩)) ?hi3 (by kernel_rfl) (by kernel_rfl) (by kernel_rfl) ?hQ3 ?hy3 (by assumption) ?rest3
  case hi3 => (simp only [List.getElem?_toArray, List.getElem?_cons_zero, List.getElem?_cons_succ]; rfl)
  case hQ3 => exact fun _ _ _ h => h
  case hy3 => exact Or.inl ⟨by rfl, by (intro w hSw; (try dsimp only at hSw); go_simp )⟩
  simp only [Act.put, List.setIfInBounds_toArray, List.set_cons_zero, List.set_cons_succ]
  refine wpAnyH_take (i := 4) (oi := ?oi4) (v := .bool s.be) ?hi4 (by kernel_rfl) (by kernel_rfl) (by kernel_rfl) ?hQ4 ?hy4 (by assumption) ?rest4
  case hi4 => (simp only [List.getElem?_toArray, List.getElem?_cons_zero, List.getElem?_cons_succ]; rfl)
  case hQ4 => exact fun _ _ _ h => h
  case hy4 => exact y_cell w.heap.size 21 _ (fun V hV => (RowAt.cell hV 21).trans rfl) _ Tryz.underlying4 rfl rfl
  simp only [Act.put, List.setIfInBounds_toArray, List.set_cons_zero, List.set_cons_succ]
  refine wpAnyH_take (i := 5) (oi := ?oi5) (v := .pointer (some ⟨w.heap.size, 22, none⟩)) ?hi5 (by kernel_rfl) (by kernel_rfl) (by kernel_rfl) ?hQ5 ?hy5 (by assumption) ?rest5
  case hi5 => (simp only [List.getElem?_toArray, List.getElem?_cons_zero, List.getElem?_cons_succ]; rfl)
  case hQ5 => exact fun _ _ _ h => h
  case hy5 => exact Or.inl ⟨by rfl, by (intro w hSw; (try dsimp only at hSw); go_simp )⟩
  simp only [Act.put, List.setIfInBounds_toArray, List.set_cons_zero, List.set_cons_succ]
  refine wpAnyH_take (i := 6) (oi := ?oi6) (v := .int .u32 (s.lo : Nat)) ?hi6 (by kernel_rfl) (by kernel_rfl) (by kernel_rfl) ?hQ6 ?hy6 (by assumption) ?rest6
  case hi6 => (simp only [List.getElem?_toArray, List.getElem?_cons_zero, List.getElem?_cons_succ]; rfl)
  case hQ6 => exact fun _ _ _ h => h
  case hy6 => exact y_cell w.heap.size 22 _ (fun V hV => (RowAt.cell hV 22).trans rfl) _ Tryz.underlying22 rfl rfl
  simp only [Act.put, List.setIfInBounds_toArray, List.set_cons_zero, List.set_cons_succ]
  refine wpAnyH_ready (rs := [2]) (by kernel_rfl) (by simp) ?_
  refine AllReadyH.cons (o := ?oi7) ?hi7 (fun K hK => ?_) AllReadyH.nil
  case hi7 => (simp only [List.getElem?_toArray, List.getElem?_cons_zero, List.getElem?_cons_succ]; rfl)
  rw [if_pos (by rfl)]
  go_simp
  (with_reducible refine (HG.out _).mono ?_)
  rintro e V2 ⟨rfl, hbc⟩
  have hH2 := hide (hHeld.bl hbc)
  replace hq := hq.bl hbc
  replace hb := below_bl rfl hb hbc
  clear hHeld hbc
  go_simp
  refine hK.out _ _ ?_ (fun hHeld => ?_)
  · exact hH2.out
  clear hK K
  clear hH2
  refine wpAnyH_take (i := 7) (oi := ?oi8) (v := .agg s.c) ?hi8 (by kernel_rfl) (by kernel_rfl) (by kernel_rfl) ?hQ8 ?hy8 (by assumption) ?rest8
  case hi8 => (simp only [List.getElem?_toArray, List.getElem?_cons_zero, List.getElem?_cons_succ]; rfl)
  case hQ8 => exact fun _ _ _ h => h
  case hy8 => exact y_bdn s rfl rfl rfl
  simp only [Act.put, List.setIfInBounds_toArray, List.set_cons_zero, List.set_cons_succ]
  refine wpAnyH_ready (rs := [8]) (by kernel_rfl) (by simp) ?_
  refine AllReadyH.cons (o := ?oi9) ?hi9 (fun K hK => ?_) AllReadyH.nil
  case hi9 => (simp only [List.getElem?_toArray, List.getElem?_cons_zero, List.getElem?_cons_succ]; rfl)
  rw [if_pos (by rfl)]
  (with_reducible refine s_nc (w.heap.size + 1) _ s hq ?_ ?_ ?_)
  · exact rfl
  · exact rfl
  intro V3 hnew ho
  have hH2 := hide (hHeld.only ho (by omega))
  replace hb := ho.bel _ _ (by omega) hb
  clear hHeld ho hq
  refine hK.out _ _ ?_ (fun hHeld => ?_)
  · exact hH2.out
  clear hK K
  clear hH2
  refine wpAnyH_done (by kernel_rfl) ?_ _
  go_simp
  go_wp2
  refine bodyPost_ret (results_cell_row Tryz.results7 _ _ (w.heap.size + 1) _ _ _ _ rfl hnew Tryz.underlying41 rfl size_nc) rfl ?_
  exact ⟨rfl, hb⟩
end Go.Proofs.YtbggkoahofnnjaaGreatDoor
