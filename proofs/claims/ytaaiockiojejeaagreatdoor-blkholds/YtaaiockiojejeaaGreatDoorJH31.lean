/-
  What blk's lastByte answers.
-/
import Derived.Test.YtaaiockiojejeaaGreatDoorJH28
import Derived.Test.YtaaiockiojejeaaGreatDoorJH30
namespace Go.Proofs.YtaaiockiojejeaaGreatDoor
open Go.RowKit
set_option linter.unusedVariables false
set_option linter.unusedSimpArgs false

theorem BytesO.bl {w W : World} {O : Nat → Prop} {la : Option Addr} {l : List Nat} (h : BytesO w O la l) (hb : Below w.heap.size w W) : BytesO W O la l :=
  ⟨fun h0 => by
    obtain ⟨b, o, e, h1, h2, h3⟩ := h.lies h0
    exact ⟨b, o, e, Nat.lt_of_lt_of_le h1 hb.size, h2, fun j hj => (hb.cell (p := ⟨b, o + j, none⟩) h1).trans (h3 j hj)⟩, h.small⟩
theorem gave_none {e : Ending} (h : GaveE none e) : ∃ z : Int, e = .returned (.tuple #[.agg zeroRg.cells, .iface 129 (.int .i64 z)]) := by
  rcases h.ex with ⟨r, q, _⟩ | ⟨_, z, e⟩
  · cases q
  · exact ⟨z, e⟩
theorem gave_some {r : Rg} {e : Ending} (h : GaveE (some r) e) : e = .returned (.tuple #[.agg r.cells, .nilIface]) := by
  rcases h.ex with ⟨r', q, e⟩ | ⟨q, _⟩
  · cases q; exact e
  · cases q
set_option maxHeartbeats 2000000 in
theorem ans_no (s : Bk) (ok : s.p.Ok) (v : Value) (hv : v.oneCell' = true) (hd : Int) (l : List Sg) (hl : l.length ≤ 1000) (hw : ∀ g ∈ l, g.Ok) {lv : Value} {Bl : Nat} (bl : List Nat) (bcap : Nat) (ba : Option Addr) {w : World} {B b p c : Nat} {f : Nat → Nat} {O : Nat → Prop} (h : RamB w B b p f c O) (hA : AreasAt w) (hG : 2 < B) (hL : w.ownsRow Bl 103 3 lv l.length (segL l)) (hbl : BytesO w O ba bl) (hbc : bl.length ≤ bcap) (hbm : bcap ≤ 9223372036854775807) (hb32 : bl.length < 4294967296) (hc9 : c ≤ 800000000) (hs : scatE p l bl.length ≠ 0) : Calls Tryz.prog 51 #[.agg (s.c v), .pointer (some ⟨b, 0, none⟩), .int .i64 hd, lv, .slice ba bl.length bcap] w fun e w' => e = .returned (.agg ((ansV p f s hd l bl).2.c v)) ∧ ∃ O', RamB w' B b p (ansV p f s hd l bl).1 (c + l.length + 3) O' ∧ Went B O O' w w' := by
  have e1 : ansV p f s hd l bl = (f, s.fail) := by unfold ansV; rw [if_neg hs]
  rw [e1]
  have HS : Hid (∀ W, Below w.heap.size w W → Calls Tryz.prog 93 #[.pointer (some ⟨b, 0, none⟩), lv, .slice ba bl.length bcap] W fun e w' => e = .returned (errR (scatE p l bl.length)) ∧ ∃ O', RamB w' B b p (if scatE p l bl.length = 0 then scatF f (partsV true bl.length l) bl else f) (c + l.length) O' ∧ Went B O O' W w') := hide (fun W hb => scato_any l hl hw bl bcap ba (h.bl hb) (hA.bl hb) hG (own_bel hL hb) (hbl.bl hb) hbc hbm (by omega))
  have HFl := hide (fun w => failed_any s ok v hv w)
  rw [if_neg hs] at HS
  have hE : ∃ z : Int, errR (scatE p l bl.length) = .iface 129 (.int .i64 z) := ⟨_, by unfold errR; rw [if_neg hs]⟩
  obtain ⟨z, hz⟩ := hE
  rw [hz] at HS
  obtain ⟨av, cap, rfl, _, _⟩ := own_form hL
  generalize bl.length = M at *
  clear hz hs e1 hbl hL
  have hB0 := h.base
  have hGw : 2 < w.heap.size := Nat.lt_of_lt_of_le hG hB0
  have hA0 := hA
  clear hA
  go_enter Tryz.func51, Tryz.ntmps51
  go_wp2_with (first | ((with_reducible refine bx_bk w.heap.size s v ?_ ?_ ?_); exact rfl; exact rfl; intro W hr hb hz) | ((with_reducible refine al_bk (w.heap.size + 1) ?_ ?_); exact hz.out; intro W hq hb' hz'; replace hr := hr.bl (hz.out ▸ hb'); replace hb := hb.trans (hb'.mono (by omega)); replace hz := hz'; have hM := h.bl hb; have hW := Went.of (O := O) hb hB0; have hA := hA0.bl hb; have hF := h.far 2; have hS : w.heap.size + 2 ≤ W.heap.size := Nat.le_of_eq hz.out.symm; have hB : B ≤ W.heap.size := Nat.le_trans hB0 hb.size; have HB := hide hb; clear hb hz hb' hz') | (go_at_call 93; (with_reducible refine (HS.out _ HB.out).mono ?_); rintro e W2 ⟨rfl, O2, hM2, hW2⟩; clear HB; replace hr := hW2.row hr (hF.at 0 (by omega)); replace hq := hW2.row hq (hF.at 1 (by omega)); replace hA := hA.wentR hG hW2; replace hF := hF.went hW2 hS; replace hS := Nat.le_trans hS hW2.size; replace hW := hW.trans hW2; replace hB := Nat.le_trans hB hW2.size; replace hM := hM2; clear hM2 hW2) | ((with_reducible refine ld_bk w.heap.size s _ hr ?_ ?_ ?_); exact rfl; exact rfl) | (go_at_call 32; (with_reducible refine (HFl.out _).mono ?_); rintro e W ⟨rfl, hbc⟩; replace hM := hM.bl hbc; replace hW := hW.bl hbc hB; replace hA := hA.bl hbc; replace hB := Nat.le_trans hB hbc.size; replace hS := Nat.le_trans hS hbc.size; replace hr := hr.bl hbc; replace hq := hq.bl hbc) | ((with_reducible refine st_bk (w.heap.size + 1) _ _ s.fail v hv hq ?_ ?_ ?_); exact rfl; exact rfl; intro W hnew ho; replace hr := hr.only ho (by omega); replace hM := hM.only ho (hF.at 1 (by omega)); replace hA := hA.onlyR ho (by omega); replace hW := hW.only ho (by omega) (by omega); replace hS := (show w.heap.size + 2 ≤ W.heap.size by rw [ho.size]; exact hS); replace hB := (show B ≤ W.heap.size by rw [ho.size]; exact hB); replace hq := hnew; clear hnew ho))
  refine bodyPost_ret (results_cell_row Tryz.results51 _ _ (w.heap.size + 1) _ _ _ _ rfl hq Tryz.underlying53 rfl size_bk) rfl ?_
  exact ⟨rfl, _, hM.more (by omega), hW⟩
set_option maxHeartbeats 2000000 in
theorem ans_half (s : Bk) (ok : s.p.Ok) (v : Value) (hv : v.oneCell' = true) (hd : Int) (l : List Sg) (hl : l.length ≤ 1000) (hw : ∀ g ∈ l, g.Ok) {lv : Value} {Bl : Nat} (bl : List Nat) (bcap : Nat) (ba : Option Addr) {w : World} {B b p c : Nat} {f : Nat → Nat} {O : Nat → Prop} (h : RamB w B b p f c O) (hA : AreasAt w) (hG : 2 < B) (hL : w.ownsRow Bl 103 3 lv l.length (segL l)) (hbl : BytesO w O ba bl) (hbc : bl.length ≤ bcap) (hbm : bcap ≤ 9223372036854775807) (hb32 : bl.length < 4294967296) (hc9 : c ≤ 800000000) (hs : scatE p l bl.length = 0) (hg0 : (giveV p (scatF f (partsV true bl.length l) bl) s.p.q0.r hd bl.length).2 = none) : Calls Tryz.prog 51 #[.agg (s.c v), .pointer (some ⟨b, 0, none⟩), .int .i64 hd, lv, .slice ba bl.length bcap] w fun e w' => e = .returned (.agg ((ansV p f s hd l bl).2.c v)) ∧ ∃ O', RamB w' B b p (ansV p f s hd l bl).1 (c + l.length + 3) O' ∧ Went B O O' w w' := by
  have e1 : ansV p f s hd l bl = ((giveV p (scatF f (partsV true bl.length l) bl) s.p.q0.r hd bl.length).1, s.fail) := by unfold ansV; rw [if_pos hs, hg0]
  rw [e1]
  clear e1
  have HS : Hid (∀ W, Below w.heap.size w W → Calls Tryz.prog 93 #[.pointer (some ⟨b, 0, none⟩), lv, .slice ba bl.length bcap] W fun e w' => e = .returned (errR (scatE p l bl.length)) ∧ ∃ O', RamB w' B b p (if scatE p l bl.length = 0 then scatF f (partsV true bl.length l) bl else f) (c + l.length) O' ∧ Went B O O' W w') := hide (fun W hb => scato_any l hl hw bl bcap ba (h.bl hb) (hA.bl hb) hG (own_bel hL hb) (hbl.bl hb) hbc hbm (by omega))
  have HFl := hide (fun w => failed_any s ok v hv w)
  have HG : Hid (∀ W O1, RamB W B b p (scatF f (partsV true bl.length l) bl) (c + l.length) O1 → AreasAt W → Calls Tryz.prog 94 #[.agg s.p.q0.r.cells, .pointer (some ⟨b, 0, none⟩), .int .i64 hd, .int .u32 (bl.length : Nat)] W fun e w' => GaveE (giveV p (scatF f (partsV true bl.length l) bl) s.p.q0.r hd bl.length).2 e ∧ ∃ O', RamB w' B b p (giveV p (scatF f (partsV true bl.length l) bl) s.p.q0.r hd bl.length).1 (c + l.length + 1 + 1 + 1) O' ∧ Went B O1 O' W w') := hide (fun W O1 hM hA => give_any s.p.q0.r ok.q0 hM hA hG hd bl.length hb32 (by omega))
  rw [if_pos hs] at HS
  rw [hs, show errR 0 = .nilIface from rfl] at HS
  have e32 : IntKind.u32.wrap (bl.length : Int) = (bl.length : Int) := by rw [IntKind.wrap_u32]; omega
  obtain ⟨av, cap, rfl, _, _⟩ := own_form hL
  generalize scatF f (partsV true bl.length l) bl = f1 at *
  generalize giveV p f1 s.p.q0.r hd bl.length = gg at *
  obtain ⟨f2, gr⟩ := gg
  simp only at HG hg0 ⊢
  subst hg0
  generalize bl.length = M at *
  clear hs hbl hL
  have hB0 := h.base
  have hGw : 2 < w.heap.size := Nat.lt_of_lt_of_le hG hB0
  have hA0 := hA
  clear hA
  go_enter Tryz.func51, Tryz.ntmps51
  go_wp2_with (first | ((with_reducible refine bx_bk w.heap.size s v ?_ ?_ ?_); exact rfl; exact rfl; intro W hr hb hz) | ((with_reducible refine al_bk (w.heap.size + 1) ?_ ?_); exact hz.out; intro W hq hb' hz'; replace hr := hr.bl (hz.out ▸ hb'); replace hb := hb.trans (hb'.mono (by omega)); replace hz := hz'; have hM := h.bl hb; have hW := Went.of (O := O) hb hB0; have hA := hA0.bl hb; have hF := h.far 2; have hS : w.heap.size + 2 ≤ W.heap.size := Nat.le_of_eq hz.out.symm; have hB : B ≤ W.heap.size := Nat.le_trans hB0 hb.size; have HB := hide hb; clear hb hz hb' hz') | (go_at_call 93; (with_reducible refine (HS.out _ HB.out).mono ?_); rintro e W2 ⟨rfl, O2, hM2, hW2⟩; clear HB; replace hr := hW2.row hr (hF.at 0 (by omega)); replace hq := hW2.row hq (hF.at 1 (by omega)); replace hA := hA.wentR hG hW2; replace hF := hF.went hW2 hS; replace hS := Nat.le_trans hS hW2.size; replace hW := hW.trans hW2; replace hB := Nat.le_trans hB hW2.size; replace hM := hM2; clear hM2 hW2) | ((with_reducible refine ld_br w.heap.size s _ _ hr ?_ ?_ ?_); exact rfl; exact rfl) | (go_at_call 94; (with_reducible refine (HG.out _ _ hM hA).mono ?_); rintro e W2 ⟨hgv, O2, hM2, hW2⟩; obtain ⟨z, rfl⟩ := gave_none hgv; clear hgv; replace hr := hW2.row hr (hF.at 0 (by omega)); replace hq := hW2.row hq (hF.at 1 (by omega)); replace hA := hA.wentR hG hW2; replace hF := hF.went hW2 hS; replace hS := Nat.le_trans hS hW2.size; replace hW := hW.trans hW2; replace hB := Nat.le_trans hB hW2.size; replace hM := hM2; clear hM2 hW2; obtain ⟨NX, hNX0⟩ : ∃ n, W2.heap.size = n := ⟨_, rfl⟩; have hNX := hide hNX0; have hd1 : w.heap.size + 2 ≤ NX := hNX0 ▸ hS; clear hNX0) | ((with_reducible refine al_rp NX ?_ ?_); exact hNX.out; intro W hg hb' hz'; have hgO : ¬ O2 NX := (fun e => absurd (hM.lt NX e) (by rw [hNX.out]; omega)); have hbc := hNX.out ▸ hb'; replace hM := hM.bl hbc; replace hW := hW.bl hbc hB; replace hA := hA.bl hbc; replace hB := Nat.le_trans hB hbc.size; replace hS := Nat.le_trans hS hbc.size; replace hr := hr.bl hbc; replace hq := hq.bl hbc; clear hb' hbc) | ((with_reducible refine st_rp NX _ zeroRg hg ?_ ?_ ?_); exact rfl; exact rfl; intro W hnew ho; replace hr := hr.only ho (by omega); replace hq := hq.only ho (by omega); replace hM := hM.only ho hgO; replace hA := hA.onlyR ho (by omega); replace hW := hW.only ho (by omega) (by omega); replace hS := (show w.heap.size + 2 ≤ W.heap.size by rw [ho.size]; exact hS); replace hB := (show B ≤ W.heap.size by rw [ho.size]; exact hB); replace hg := hnew; clear hnew ho) | ((with_reducible refine ld_bk w.heap.size s _ hr ?_ ?_ ?_); exact rfl; exact rfl) | (go_at_call 32; (with_reducible refine (HFl.out _).mono ?_); rintro e W ⟨rfl, hbc⟩; replace hM := hM.bl hbc; replace hW := hW.bl hbc hB; replace hA := hA.bl hbc; replace hB := Nat.le_trans hB hbc.size; replace hS := Nat.le_trans hS hbc.size; replace hr := hr.bl hbc; replace hq := hq.bl hbc) | ((with_reducible refine st_bk (w.heap.size + 1) _ _ s.fail v hv hq ?_ ?_ ?_); exact rfl; exact rfl; intro W hnew ho; replace hr := hr.only ho (by omega); replace hM := hM.only ho (hF.at 1 (by omega)); replace hA := hA.onlyR ho (by omega); replace hW := hW.only ho (by omega) (by omega); replace hS := (show w.heap.size + 2 ≤ W.heap.size by rw [ho.size]; exact hS); replace hB := (show B ≤ W.heap.size by rw [ho.size]; exact hB); replace hq := hnew; clear hnew ho))
  refine bodyPost_ret (results_cell_row Tryz.results51 _ _ (w.heap.size + 1) _ _ _ _ rfl hq Tryz.underlying53 rfl size_bk) rfl ?_
  exact ⟨rfl, _, hM.more (by omega), hW⟩
set_option maxHeartbeats 2000000 in
theorem ans_ok (s : Bk) (ok : s.p.Ok) (v : Value) (hv : v.oneCell' = true) (hd : Int) (l : List Sg) (hl : l.length ≤ 1000) (hw : ∀ g ∈ l, g.Ok) {lv : Value} {Bl : Nat} (bl : List Nat) (bcap : Nat) (ba : Option Addr) {w : World} {B b p c : Nat} {f : Nat → Nat} {O : Nat → Prop} (h : RamB w B b p f c O) (hA : AreasAt w) (hG : 2 < B) (hL : w.ownsRow Bl 103 3 lv l.length (segL l)) (hbl : BytesO w O ba bl) (hbc : bl.length ≤ bcap) (hbm : bcap ≤ 9223372036854775807) (hb32 : bl.length < 4294967296) (hc9 : c ≤ 800000000) (hs : scatE p l bl.length = 0) (r : Rg) (hrg : r.Ok) (hg0 : (giveV p (scatF f (partsV true bl.length l) bl) s.p.q0.r hd bl.length).2 = some r) : Calls Tryz.prog 51 #[.agg (s.c v), .pointer (some ⟨b, 0, none⟩), .int .i64 hd, lv, .slice ba bl.length bcap] w fun e w' => e = .returned (.agg ((ansV p f s hd l bl).2.c v)) ∧ ∃ O', RamB w' B b p (ansV p f s hd l bl).1 (c + l.length + 3) O' ∧ Went B O O' w w' := by
  have e1 : ansV p f s hd l bl = ((giveV p (scatF f (partsV true bl.length l) bl) s.p.q0.r hd bl.length).1, (s.ring r).used) := by unfold ansV; rw [if_pos hs, hg0]
  rw [e1]
  clear e1
  have HS : Hid (∀ W, Below w.heap.size w W → Calls Tryz.prog 93 #[.pointer (some ⟨b, 0, none⟩), lv, .slice ba bl.length bcap] W fun e w' => e = .returned (errR (scatE p l bl.length)) ∧ ∃ O', RamB w' B b p (if scatE p l bl.length = 0 then scatF f (partsV true bl.length l) bl else f) (c + l.length) O' ∧ Went B O O' W w') := hide (fun W hb => scato_any l hl hw bl bcap ba (h.bl hb) (hA.bl hb) hG (own_bel hL hb) (hbl.bl hb) hbc hbm (by omega))
  have HG : Hid (∀ W O1, RamB W B b p (scatF f (partsV true bl.length l) bl) (c + l.length) O1 → AreasAt W → Calls Tryz.prog 94 #[.agg s.p.q0.r.cells, .pointer (some ⟨b, 0, none⟩), .int .i64 hd, .int .u32 (bl.length : Nat)] W fun e w' => GaveE (giveV p (scatF f (partsV true bl.length l) bl) s.p.q0.r hd bl.length).2 e ∧ ∃ O', RamB w' B b p (giveV p (scatF f (partsV true bl.length l) bl) s.p.q0.r hd bl.length).1 (c + l.length + 1 + 1 + 1) O' ∧ Went B O1 O' W w') := hide (fun W O1 hM hA => give_any s.p.q0.r ok.q0 hM hA hG hd bl.length hb32 (by omega))
  rw [if_pos hs] at HS
  rw [hs, show errR 0 = .nilIface from rfl] at HS
  have e32 : IntKind.u32.wrap (bl.length : Int) = (bl.length : Int) := by rw [IntKind.wrap_u32]; omega
  obtain ⟨av, cap, rfl, _, _⟩ := own_form hL
  generalize scatF f (partsV true bl.length l) bl = f1 at *
  generalize giveV p f1 s.p.q0.r hd bl.length = gg at *
  obtain ⟨f2, gr⟩ := gg
  simp only at HG hg0 ⊢
  subst hg0
  generalize bl.length = M at *
  clear hs hbl hL
  have hu : (s.ring r).p.Ok := ⟨ok.st, ok.fs, ok.ds, ok.se, ok.ir, ok.d0, ok.d1, hrg, ok.q1⟩
  obtain ⟨s1, hs1⟩ : ∃ x, s.ring r = x := ⟨_, rfl⟩
  have HS1 := hide hs1
  rw [hs1] at hu ⊢
  have HU := hide (fun w => used_any s1.p hu w)
  obtain ⟨s2, hs2⟩ : ∃ x, s1.pw (usedV s1.p) = x := ⟨_, rfl⟩
  have HS2 := hide hs2
  rw [show s1.used = s1.pw (usedV s1.p) from rfl, hs2]
  generalize usedV s1.p = up at *
  clear hs1 hs2 hu
  have hB0 := h.base
  have hGw : 2 < w.heap.size := Nat.lt_of_lt_of_le hG hB0
  have hA0 := hA
  clear hA
  go_enter Tryz.func51, Tryz.ntmps51
  go_wp2_with (first | ((with_reducible refine bx_bk w.heap.size s v ?_ ?_ ?_); exact rfl; exact rfl; intro W hr hb hz) | ((with_reducible refine al_bk (w.heap.size + 1) ?_ ?_); exact hz.out; intro W hq hb' hz'; replace hr := hr.bl (hz.out ▸ hb'); replace hb := hb.trans (hb'.mono (by omega)); replace hz := hz'; have hM := h.bl hb; have hW := Went.of (O := O) hb hB0; have hA := hA0.bl hb; have hF := h.far 2; have hS : w.heap.size + 2 ≤ W.heap.size := Nat.le_of_eq hz.out.symm; have hB : B ≤ W.heap.size := Nat.le_trans hB0 hb.size; have HB := hide hb; clear hb hz hb' hz') | (go_at_call 93; (with_reducible refine (HS.out _ HB.out).mono ?_); rintro e W2 ⟨rfl, O2, hM2, hW2⟩; clear HB; replace hr := hW2.row hr (hF.at 0 (by omega)); replace hq := hW2.row hq (hF.at 1 (by omega)); replace hA := hA.wentR hG hW2; replace hF := hF.went hW2 hS; replace hS := Nat.le_trans hS hW2.size; replace hW := hW.trans hW2; replace hB := Nat.le_trans hB hW2.size; replace hM := hM2; clear hM2 hW2) | ((with_reducible refine ld_br w.heap.size s _ _ hr ?_ ?_ ?_); exact rfl; exact rfl) | (go_at_call 94; (with_reducible refine (HG.out _ _ hM hA).mono ?_); rintro e W2 ⟨hgv, O2, hM2, hW2⟩; obtain rfl := gave_some hgv; clear hgv; replace hr := hW2.row hr (hF.at 0 (by omega)); replace hq := hW2.row hq (hF.at 1 (by omega)); replace hA := hA.wentR hG hW2; replace hF := hF.went hW2 hS; replace hS := Nat.le_trans hS hW2.size; replace hW := hW.trans hW2; replace hB := Nat.le_trans hB hW2.size; replace hM := hM2; clear hM2 hW2; obtain ⟨NX, hNX0⟩ : ∃ n, W2.heap.size = n := ⟨_, rfl⟩; have hNX := hide hNX0; have hd1 : w.heap.size + 2 ≤ NX := hNX0 ▸ hS; clear hNX0) | ((with_reducible refine al_rp NX ?_ ?_); exact hNX.out; intro W hg hb' hz'; have hgO : ¬ O2 NX := (fun e => absurd (hM.lt NX e) (by rw [hNX.out]; omega)); have hbc := hNX.out ▸ hb'; replace hM := hM.bl hbc; replace hW := hW.bl hbc hB; replace hA := hA.bl hbc; replace hB := Nat.le_trans hB hbc.size; replace hS := Nat.le_trans hS hbc.size; replace hr := hr.bl hbc; replace hq := hq.bl hbc; clear hb' hbc) | ((with_reducible refine st_rp NX _ r hg ?_ ?_ ?_); exact rfl; exact rfl; intro W hnew ho; replace hr := hr.only ho (by omega); replace hq := hq.only ho (by omega); replace hM := hM.only ho hgO; replace hA := hA.onlyR ho (by omega); replace hW := hW.only ho (by omega) (by omega); replace hS := (show w.heap.size + 2 ≤ W.heap.size by rw [ho.size]; exact hS); replace hB := (show B ≤ W.heap.size by rw [ho.size]; exact hB); replace hg := hnew; clear hnew ho) | ((with_reducible refine ld_rp NX r hg ?_ ?_ ?_); exact rfl; exact rfl) | ((with_reducible refine st_br w.heap.size s v r _ hr ?_ ?_ ?_); exact rfl; exact rfl; intro W hnew ho; rw [HS1.out] at hnew; replace hq := hq.only ho (by omega); replace hg := hg.only ho (by omega); replace hM := hM.only ho (hF.at 0 (by omega)); replace hA := hA.onlyR ho (by omega); replace hW := hW.only ho (by omega) (by omega); replace hS := (show w.heap.size + 2 ≤ W.heap.size by rw [ho.size]; exact hS); replace hB := (show B ≤ W.heap.size by rw [ho.size]; exact hB); replace hr := hnew; clear hnew ho) | ((with_reducible refine ld_bp w.heap.size s1 _ _ hr ?_ ?_ ?_); exact rfl; exact rfl) | (go_at_call 95; (with_reducible refine (HU.out _).mono ?_); rintro e W ⟨rfl, hbc⟩; replace hM := hM.bl hbc; replace hW := hW.bl hbc hB; replace hA := hA.bl hbc; replace hB := Nat.le_trans hB hbc.size; replace hS := Nat.le_trans hS hbc.size; replace hr := hr.bl hbc; replace hq := hq.bl hbc; replace hg := hg.bl hbc) | ((with_reducible refine st_bp w.heap.size s1 v up _ hr ?_ ?_ ?_); exact rfl; exact rfl; intro W hnew ho; rw [HS2.out] at hnew; replace hq := hq.only ho (by omega); replace hg := hg.only ho (by omega); replace hM := hM.only ho (hF.at 0 (by omega)); replace hA := hA.onlyR ho (by omega); replace hW := hW.only ho (by omega) (by omega); replace hS := (show w.heap.size + 2 ≤ W.heap.size by rw [ho.size]; exact hS); replace hB := (show B ≤ W.heap.size by rw [ho.size]; exact hB); replace hr := hnew; clear hnew ho) | ((with_reducible refine ld_bk w.heap.size s2 _ hr ?_ ?_ ?_); exact rfl; exact rfl) | ((with_reducible refine st_bk (w.heap.size + 1) _ _ s2 v hv hq ?_ ?_ ?_); exact rfl; exact rfl; intro W hnew ho; replace hr := hr.only ho (by omega); replace hg := hg.only ho (by omega); replace hM := hM.only ho (hF.at 1 (by omega)); replace hA := hA.onlyR ho (by omega); replace hW := hW.only ho (by omega) (by omega); replace hS := (show w.heap.size + 2 ≤ W.heap.size by rw [ho.size]; exact hS); replace hB := (show B ≤ W.heap.size by rw [ho.size]; exact hB); replace hq := hnew; clear hnew ho))
  refine bodyPost_ret (results_cell_row Tryz.results51 _ _ (w.heap.size + 1) _ _ _ _ rfl hq Tryz.underlying53 rfl size_bk) rfl ?_
  exact ⟨rfl, _, hM.more (by omega), hW⟩
theorem givenR_ok {p : Nat} {f : Nat → Nat} {r r' : Rg} {hd : Int} {n : Nat} (h : r.Ok) (e : (giveV p f r hd n).2 = some r') : r'.Ok := by
  unfold giveV at e
  repeat' split at e
  all_goals first
    | (cases e; exact ⟨h.sz0, h.sz1, h.de, h.av, h.us, h.la, Nat.mod_lt _ (by decide)⟩)
    | cases e
theorem answer_any (s : Bk) (ok : s.p.Ok) (v : Value) (hv : v.oneCell' = true) (hd : Int) (l : List Sg) (hl : l.length ≤ 1000) (hw : ∀ g ∈ l, g.Ok) {lv : Value} {Bl : Nat} (bl : List Nat) (bcap : Nat) (ba : Option Addr) {w : World} {B b p c : Nat} {f : Nat → Nat} {O : Nat → Prop} (h : RamB w B b p f c O) (hA : AreasAt w) (hG : 2 < B) (hL : w.ownsRow Bl 103 3 lv l.length (segL l)) (hbl : BytesO w O ba bl) (hbc : bl.length ≤ bcap) (hbm : bcap ≤ 9223372036854775807) (hb32 : bl.length < 4294967296) (hc9 : c ≤ 800000000) : Calls Tryz.prog 51 #[.agg (s.c v), .pointer (some ⟨b, 0, none⟩), .int .i64 hd, lv, .slice ba bl.length bcap] w fun e w' => e = .returned (.agg ((ansV p f s hd l bl).2.c v)) ∧ ∃ O', RamB w' B b p (ansV p f s hd l bl).1 (c + l.length + 3) O' ∧ Went B O O' w w' := by
  by_cases hs : scatE p l bl.length = 0
  · cases hg : (giveV p (scatF f (partsV true bl.length l) bl) s.p.q0.r hd bl.length).2 with
    | none => exact ans_half s ok v hv hd l hl hw bl bcap ba h hA hG hL hbl hbc hbm hb32 hc9 hs hg
    | some r => exact ans_ok s ok v hv hd l hl hw bl bcap ba h hA hG hL hbl hbc hbm hb32 hc9 hs r (givenR_ok ok.q0 hg) hg
  · exact ans_no s ok v hv hd l hl hw bl bcap ba h hA hG hL hbl hbc hbm hb32 hc9 hs
end Go.Proofs.YtaaiockiojejeaaGreatDoor
namespace Go.Proofs.YtaaiockiojejeaaGreatDoor
open Go.RowKit Go.Shelf
set_option linter.unusedVariables false

attribute [local go_sem] Oper.semAt_some
def wrS (s : Sg) : Bool := s.wr && decide (0 < s.n)
def oneB (s : Sg) : List Sg := if (s.at' : Int) + s.n - 1 ≤ 4294967295 then [⟨(s.at' + s.n.toNat - 1), 1, true⟩] else []
theorem lasB_eq : ∀ l : List Sg, lasB l = (match l.reverse.find? wrS with | some s => oneB s | none => [])
  | [] => rfl
  | s :: t => by
    rw [lasB, List.reverse_cons, List.find?_append]
    by_cases h : (t.any fun s => s.wr && decide (0 < s.n)) = true
    · rw [if_pos h, lasB_eq t]
      obtain ⟨x, hx, hw⟩ := List.any_eq_true.1 h
      cases hf : t.reverse.find? wrS with
      | some y => rfl
      | none => exact absurd hw (by have := List.find?_eq_none.1 hf x (List.mem_reverse.2 hx); exact this)
    · rw [if_neg h]
      have hn : t.reverse.find? wrS = none := List.find?_eq_none.2 (fun x hx hw => h (List.any_eq_true.2 ⟨x, List.mem_reverse.1 hx, hw⟩))
      rw [hn]
      by_cases hs : wrS s = true
      · rw [if_pos (show (s.wr && decide (0 < s.n)) = true from hs)]
        simp [hs, oneB]
      · rw [if_neg (show ¬ (s.wr && decide (0 < s.n)) = true from hs)]
        simp [hs]
/-- What has come, and nothing of it is written. -/
def NoneW (pre : List PairS) : Prop := ∀ x ∈ pre, wrS x.2.1 = false
theorem noneW_snoc {pre : List PairS} {x : PairS} (h : NoneW pre) (hx : wrS x.2.1 = false) : NoneW (pre ++ [x]) := fun y hy => by
  rcases List.mem_append.1 hy with h1 | h1
  · exact h y h1
  · rw [List.mem_singleton.1 h1]; exact hx
theorem up_snd (l : List Sg) (g : Nat → SgO) (hg : ∀ j s, l[j]? = some s → (g j).1 = s) : ∀ k, k ≤ l.length → (upto (downS g l.length) k).map (·.2.1) = l.reverse.take k := by
  intro k hk
  apply List.ext_getElem?
  intro j
  rw [List.getElem?_take, List.getElem?_map]
  by_cases hj : j < k
  · rw [if_pos hj]
    have hjl : l.length - 1 - j < l.length := by omega
    have h1 : (upto (downS g l.length) k)[j]? = some (downS g l.length j) := by unfold upto; rw [List.getElem?_map, List.getElem?_range hj]; rfl
    rw [h1, List.getElem?_reverse (by omega)]
    have := hg (l.length - 1 - j) l[l.length - 1 - j] (List.getElem?_eq_getElem hjl)
    rw [List.getElem?_eq_getElem hjl]
    show some (g (l.length - 1 - j)).1 = _
    rw [this]
  · rw [if_neg hj, List.getElem?_eq_none (by rw [upto_length]; omega)]; rfl
theorem las_none (l : List Sg) (g : Nat → SgO) (hg : ∀ j s, l[j]? = some s → (g j).1 = s) (h : NoneW (upto (downS g l.length) l.length)) : lasB l = [] := by
  rw [lasB_eq]
  have hn : l.reverse.find? wrS = none := List.find?_eq_none.2 (fun x hx hw => by
    have hm := up_snd l g hg l.length (Nat.le_refl _)
    rw [List.take_of_length_le (by simp)] at hm
    rw [← hm] at hx
    obtain ⟨y, hy, rfl⟩ := List.mem_map.1 hx
    rw [h y hy] at hw; cases hw)
  rw [hn]
theorem las_some (l : List Sg) (g : Nat → SgO) (hg : ∀ j s, l[j]? = some s → (g j).1 = s) (k : Nat) (hk : k ≤ l.length) (pre : List PairS) (x : PairS) (e : pre ++ [x] = upto (downS g l.length) k) (h : NoneW pre) (hx : wrS x.2.1 = true) : lasB l = oneB x.2.1 := by
  rw [lasB_eq]
  have hm := up_snd l g hg k hk
  rw [← e, List.map_append] at hm
  have hf : l.reverse.find? wrS = some x.2.1 := by
    rw [← List.take_append_drop k l.reverse, ← hm, List.find?_append, List.find?_append]
    have hn : (pre.map (·.2.1)).find? wrS = none := List.find?_eq_none.2 (fun y hy hw => by
      obtain ⟨z, hz, rfl⟩ := List.mem_map.1 hy
      rw [h z hz] at hw; cases hw)
    rw [hn]
    simp [hx]
  rw [hf]
theorem row_grown {W W' : World} {row : Option Nat} {g : Nat} {cs : Array Value} {t : TypeId} (h : RowAt W g cs t) (hg : W.grownBy W' row) (hr : ∀ r, row = some r → ∃ o : Obj, W.heap[r]? = some o ∧ o.isCells = false) : RowAt W' g cs t :=
  (hg.block g h.lt (fun e => by
    obtain ⟨o, h1, h2⟩ := hr g e.symm
    have := h.symm.trans h1
    simp at this
    subst this
    cases h2)).trans h
theorem own_grown {W W' : World} {row : Option Nat} {B e sz n : Nat} {v : Value} {xs : List Value} (h : W.ownsRow B e sz v n xs) (hg : W.grownBy W' row) (hr : ∀ r, row = some r → ∃ o : Obj, W.heap[r]? = some o ∧ o.isCells = false) : W'.ownsRow B e sz v n xs :=
  own_at h (fun g hgb => by
    rcases h.2 with ⟨h1, _⟩ | ⟨g', cap, cur, h1, _, h3, _⟩
    · subst h1; cases hgb
    · subst h1; cases hgb
      exact (show W'.heap[g']? = W.heap[g']? from (row_grown (t := e) h3 hg hr).trans h3.symm))
theorem keeps_below {B : Nat} {W W' : World} (h : Below W.heap.size W W') : KeepsFrom B W W' := ⟨h.size, fun k o _ hk _ => (h.block k (Array.getElem?_eq_some_iff.1 hk).1).trans hk⟩
theorem keeps_put {w W W1 : World} (hs : w.heap.size + 1 + 1 ≤ W.heap.size) (h : Below W.heap.size W W1) (v : Value) : KeepsFrom (w.heap.size + 1 + 1) W (W1.setCell ⟨w.heap.size, 0, none⟩ v) :=
  ⟨by simp; exact h.size, fun k o hB hk _ => ((only_setCell w.heap.size 0 v W1).row k (by omega)).trans ((h.block k (Array.getElem?_eq_some_iff.1 hk).1).trans hk)⟩
theorem put_row {W : World} {D g : Nat} {cs : Array Value} {t : TypeId} {o o' : Obj} (h : RowAt W g cs t) (hD : W.heap[D]? = some o) (hn : o.isCells = false := by rfl) : RowAt (W.putObj D o') g cs t :=
  (World.putObj_heap_other (by
    intro e
    subst e
    have := h.symm.trans hD
    simp at this
    subst this
    cases hn)).trans h
theorem put_own {W : World} {D B e sz n : Nat} {v : Value} {xs : List Value} {o o' : Obj} (h : W.ownsRow B e sz v n xs) (hD : W.heap[D]? = some o) (hn : o.isCells = false := by rfl) : (W.putObj D o').ownsRow B e sz v n xs :=
  own_at h (fun g hgb => by
    rcases h.2 with ⟨h1, _⟩ | ⟨g', cap, cur, h1, _, h3, _⟩
    · subst h1; cases hgb
    · subst h1; cases hgb
      exact (put_row (t := e) (o' := o') h3 hD hn).trans h3.symm)
/-- At a return: what was found stands in the answer's place. -/
structure Found (w : World) (c : Code) (ps : List PairS) (W : World) : Prop where
  ex : ∃ pre x v, ps = pre ++ [x] ∧ NoneW pre ∧ wrS x.2.1 = true ∧ c = .ret ∧ RowAt W w.heap.size #[v] 100 ∧ W.ownsRow (w.heap.size + 1) 103 3 v (oneB x.2.1).length (segL (oneB x.2.1)) ∧ Below w.heap.size w W
set_option maxRecDepth 100000 in
set_option maxHeartbeats 4000000 in
theorem last_wide (l : List Sg) (hw : ∀ s ∈ l, s.Ok) (len : Nat) (hlen : l.length = len) (hl : len ≤ 1000) (b cap : Nat) (g : Nat → SgO) (hg : ∀ j s, l[j]? = some s → (g j).1 = s) (w : World) (hb : b < w.heap.size) (hc : SegAt w b 0 len g) :
    CallsIn Fence.wide 3 Tryz.prog 92 #[.slice (some ⟨b, 0, none⟩) len cap] w fun e W' => ∃ v', e = .returned v' ∧ W'.ownsRow w.heap.size 103 3 v' (lasB l).length (segL (lasB l)) ∧ Below w.heap.size w W' := by
  have h1 : 1 ≤ 3 := by omega
  have hro : Fence.wide.round = none := rfl
  refine callsIn_of_wp_marks Tryz.func92 rfl trivial ?_ hro
  simp only [Tryz.ntmps92, List.size_toArray, List.length_cons, List.length_nil, Nat.reduceAdd, Nat.reduceSub, Array.replicate_succ, Array.replicate_zero, List.push_toArray, List.append_toArray, List.nil_append, List.cons_append]
  gi_wp2_with (first | (refine ⟨trivial, ?_⟩; gi_at_call 125; refine (backs_in Fence.wide _ trivial hro _ _ _ _).mono ?_; rintro e w' ⟨rfl, rfl⟩))
  have bS := RowAt.new w w.heap.size #[.slice none 0 0] 100 rfl
  have bN := Boxed.new (w.alloc (.cells #[.slice none 0 0] 100)) 100 (.slice (some ⟨b, 0, none⟩) len cap)
  rw [World.size_alloc] at bN
  have hB0 : Below w.heap.size w ((w.alloc (.cells #[.slice none 0 0] 100)).alloc (.cells #[.slice (some ⟨b, 0, none⟩) len cap] 100)) := ((Below.refl _ w).alloc (Nat.le_refl _) _).alloc (by simp) _
  refine wpIn_rangeFunc_ownH hro h1 (gf := 147) (lb := #[.pointer (some ⟨w.heap.size + 1, 0, none⟩)]) rfl trivial (enters_of Tryz.func147 (by kernel_rfl) rfl)
    (backs_stops Fence.wide (3 - 1) trivial hro (by omega) (w.heap.size + 1) w.heap.size b 0 len cap g (by omega) hb _ (by simp) (by simp; omega) bN.cell (hc.bel hB0 hb)) KeepB.trans (KeepB.put (by simp; omega) (by simp)) (Below.refl _ _) (fun _ => rfl)
    (fun pre W => NoneW pre ∧ RowAt W w.heap.size #[.slice none 0 0] 100 ∧ Below w.heap.size w W ∧ w.heap.size + 2 ≤ W.heap.size)
    (fun c ps W => Found w c ps W)
    (fun s A B row hs hg hr => ⟨hs.1, row_grown hs.2.1 hg (fun r e => (hr r e).2), hs.2.2.1.grown hg hs.2.2.1.size (fun k e => by have := (hr k e).1; simp at this; omega), Nat.le_trans hs.2.2.2 hg.size⟩)
    (fun c s A B row hs hg hr => by
      obtain ⟨pre, x, v, e1, e2, e3, e4, e5, e6, e7⟩ := hs.ex
      exact ⟨⟨pre, x, v, e1, e2, e3, e4, row_grown e5 hg (fun r e => (hr r e).2), own_grown e6 hg (fun r e => (hr r e).2), e7.grown hg e7.size (fun k e => by have := (hr k e).1; simp at this; omega)⟩⟩)
    ⟨(fun x hx => by cases hx), (bS.al _), hB0, by simp⟩
    (fun x a' W => ∃ p, w.heap.size + 2 ≤ p ∧ a' = { tmps := #[.slice (some ⟨b, 0, none⟩) len cap, undef, .pointer (some ⟨w.heap.size, 0, none⟩), undef, .pointer (some ⟨p, 0, none⟩), undef, .slice (some ⟨b, 0, none⟩) len cap, .func (.func 147) #[] #[.pointer (some ⟨w.heap.size + 1, 0, none⟩)], .int .i64 (x.1 : Int), .agg x.2.1.cells, undef, undef, undef, undef, undef, undef, undef, undef, undef, undef, undef, undef, undef, undef, undef, undef, undef, undef, undef, undef, undef, undef], defers := [] } ∧ RowAt W p x.2.1.cells 103)
    (fun x a' s A B row hs hg hr => by
      obtain ⟨p, h1, h2, h3⟩ := hs
      exact ⟨p, h1, h2, row_grown h3 hg (fun r e => (hr r e).2)⟩)
    ?assign ?body ?done ?stop
  case assign =>
    rintro l pre x W K ⟨i1, i2, i3, i4⟩ hK
    have hz : ∀ w, (zeroValue 103).run Tryz.prog w = .ok (.agg zeroSg.cells) w := zero_sp
    have hr0 := RowAt.new W W.heap.size zeroSg.cells 103 rfl
    have hth := hr0.thereAt 0 3 (by decide)
    have hst := run_storeCells_cells (P := Tryz.prog) W.heap.size 0 x.2.1.cells.toList 0 (W.alloc (.cells zeroSg.cells 103)) (fun i hi => by have hq := (hth i hi).1; rwa [Nat.zero_add] at hq ⊢) (fun i hi => by have hq := (hth i hi).2; rwa [Nat.zero_add] at hq ⊢) (fun u hu => (Array.all_eq_true_iff_forall_mem.1 (sg_one x.2.1)) u (by simpa using hu))
    simp only [Nat.add_zero] at hst
    have hrw : RowAt ((W.alloc (.cells zeroSg.cells 103)).setCells W.heap.size 0 x.2.1.cells.toList) W.heap.size x.2.1.cells 103 := RowAt.puts x.2.1.cells.toList 0 hr0
    have hbw : Below W.heap.size W ((W.alloc (.cells zeroSg.cells 103)).setCells W.heap.size 0 x.2.1.cells.toList) := below_setCells (Nat.le_refl _) _ _ _ (below_one W _)
    have HB := hide (And.intro hrw hbw)
    clear hr0 hth hrw hbw
    gi_wp2
    have hB := HB.out.2
    exact hK _ _ (keeps_below hB) ⟨hB.mono (by omega), hB.block _ (by omega)⟩ ⟨i1, i2.bl hB, i3.trans (hB.mono i3.size), Nat.le_trans i4 hB.size⟩ ⟨W.heap.size, i4, rfl, HB.out.1⟩
  case body =>
    rintro lp pre x a' W hlp hlo ⟨i1, i2, i3, i4⟩ ⟨p, hp, rfl, hpr⟩ hN
    obtain ⟨xi, ⟨sa, sn, sw⟩, xok⟩ := x
    have c0 : W.cell? ⟨p, 0, none⟩ = some (.int .u32 (sa : Nat)) := hpr.cell 0
    have c1 : W.cell? ⟨p, 1, none⟩ = some (.int .i64 sn) := hpr.cell 1
    have c2 : W.cell? ⟨p, 2, none⟩ = some (.bool sw) := hpr.cell 2
    have r0 : W.cell? ⟨w.heap.size, 0, none⟩ = some (.slice none 0 0) := i2.cell 0
    have r1 : W.frozen? ⟨w.heap.size, 0, none⟩ = false := i2.thaw 0
    have r2 : ∀ o, (W.alloc o).cell? ⟨w.heap.size, 0, none⟩ = some (.slice none 0 0) := fun o => (i2.al o).cell 0
    have r3 : ∀ o, (W.alloc o).frozen? ⟨w.heap.size, 0, none⟩ = false := fun o => (i2.al o).thaw 0
    have HI := hide (And.intro i1 (And.intro i2 (And.intro i3 i4)))
    have HP := hide hpr
    have o1 : sa < 4294967296 := xok.at'
    have o2 : sn ≤ 9223372036854775807 := xok.n1
    clear i1 i2 i3 hpr hc hg bS bN hB0
    simp only
    cases sw with
    | false =>
      gi_wp2
      exact ⟨KeepsFrom.refl _ _, KeepB.refl _ _ _, noneW_snoc HI.out.1 rfl, HI.out.2⟩
    | true =>
      by_cases hs : 0 < sn
      · obtain ⟨m, rfl⟩ := Int.eq_ofNat_of_zero_le (show 0 ≤ sn by omega)
        have t0 : decide ((m : Int) ≤ 0) = false := by simp; omega
        have e1 : IntKind.u64.wrap (m : Int) = (m : Int) := by rw [IntKind.wrap_u64]; omega
        have e2 : IntKind.u64.wrap (sa : Int) = (sa : Int) := by rw [IntKind.wrap_u64]; omega
        have m0 : ¬ m = 0 := by omega
        have m1 : (m = 0) = False := by simp; omega
        have hw1 : wrS ⟨sa, (m : Int), true⟩ = true := by simp [wrS]; omega
        have HW1 := hide hw1
        by_cases hq : sa + m - 1 ≤ 4294967295
        · have HO : Hid (oneB ⟨sa, (m : Int), true⟩ = [⟨sa + m - 1, 1, true⟩]) := hide (by unfold oneB; rw [if_pos (by simp only; omega)]; simp)
          have t1 : decide ((sa : Int) + (m : Int) - 1 ≤ 4294967295) = true := by simp; omega
          have t2 : (sa : Int) + (m : Int) - 1 ≤ 4294967295 := by omega
          have HE : Hid (#[Value.int .u32 ((sa : Int) + (m : Int) - 1), .int .i64 1, .bool true] = (⟨sa + m - 1, 1, true⟩ : Sg).cells) := hide (by unfold Sg.cells; rw [show ((sa + m - 1 : Nat) : Int) = (sa : Int) + (m : Int) - 1 by omega])
          have HM0 := hide m0
          clear hw1 hs hq
          gi_wp2
          have hi2 := HI.out.2.1
          have hi3 := HI.out.2.2.1
          have hi4 := HI.out.2.2.2
          have hnew := RowAt.new W W.heap.size #[Value.int .u32 ((sa : Int) + (m : Int) - 1), .int .i64 1, .bool true] 103 rfl
          refine ⟨keeps_put (by omega) (below_one W _) _, ⟨pre, _, _, rfl, HI.out.1, HW1.out, rfl, (hi2.al _).put 0 _, ?_, (only_setCell _ _ _ _).bel _ _ (Nat.le_refl _) (hi3.trans ((below_one W _).mono hi3.size))⟩⟩
          rw [HO.out]
          have hrow := hnew.only (only_setCell w.heap.size 0 (.slice (some ⟨W.heap.size, 0, none⟩) 1 1) _) (by omega)
          rw [HE.out] at hrow ⊢
          exact own_of_segs (l := [⟨sa + m - 1, 1, true⟩]) hrow (by omega) rfl rfl (by decide) (fun j u hu => by rw [← Array.getElem?_toList]; rwa [segL_one] at hu)
        · have HO : Hid (oneB ⟨sa, (m : Int), true⟩ = []) := hide (by unfold oneB; rw [if_neg (by simp only; omega)])
          have t1 : decide ((sa : Int) + (m : Int) - 1 ≤ 4294967295) = false := by simp; omega
          have t2 : ¬ (sa : Int) + (m : Int) - 1 ≤ 4294967295 := by omega
          have HM0 := hide m0
          clear hw1 hs hq
          gi_wp2
          have hi2 := HI.out.2.1
          have hi3 := HI.out.2.2.1
          have hi4 := HI.out.2.2.2
          refine ⟨keeps_put (by omega) (Below.refl _ W) _, ⟨pre, _, _, rfl, HI.out.1, HW1.out, rfl, hi2.put 0 _, ?_, (only_setCell _ _ _ _).bel _ _ (Nat.le_refl _) hi3⟩⟩
          rw [HO.out]
          exact World.ownsRow_nil _ _ _ _
      · have t0 : decide (sn ≤ 0) = true := by simpa using hs
        have hw0 : wrS ⟨sa, sn, true⟩ = false := by simp [wrS]; omega
        have HW0 := hide hw0
        clear hw0
        gi_wp2
        exact ⟨KeepsFrom.refl _ _, KeepB.refl _ _ _, noneW_snoc HI.out.1 HW0.out, HI.out.2⟩
  case done =>
    rintro D ys W hD rfl ⟨i1, i2, i3, i4⟩ hK
    have r0 : W.cell? ⟨w.heap.size, 0, none⟩ = some (.slice none 0 0) := i2.cell 0
    have r1 : W.frozen? ⟨w.heap.size, 0, none⟩ = false := i2.thaw 0
    gi_wp2
    simp only [World.size_alloc] at hD
    have hK2 : (W.setCell ⟨w.heap.size, 0, none⟩ (.slice none 0 0)).heap[D]? = some (.deferred (some [])) := ((only_setCell w.heap.size 0 _ W).row D (by omega)).trans hK
    have hr2 : RowAt (W.setCell ⟨w.heap.size, 0, none⟩ (.slice none 0 0)) w.heap.size #[.slice none 0 0] 100 := i2.put 0 _
    have hb2 := (only_setCell w.heap.size 0 (.slice none 0 0) W).bel _ _ (Nat.le_refl _) i3
    generalize W.setCell ⟨w.heap.size, 0, none⟩ (.slice none 0 0) = V at *
    refine ⟨by simp, .inl ⟨_, _, rfl, run_takeDeferred hK2, ?_⟩⟩
    refine ⟨.slice none 0 0, ?_, _, rfl, ?_, hb2.trans (belowK_b (w := w) (Nat.le_refl _) V D _ _ (by omega) hK2 rfl rfl)⟩
    · have hc2 := fun o' => (put_row (o' := o') hr2 hK2).cell 0
      simp [results, Tryz.results92, go_sem, hc2]
    · rw [las_none l g hg (by rw [hlen]; exact i1)]
      exact World.ownsRow_nil _ _ _ _
  case stop =>
    rintro D c ps W hD ⟨k, hk, hps⟩ hf hK
    obtain ⟨pre, x, v, e1, e2, e3, rfl, e5, e6, e7⟩ := hf.ex
    gi_wp2
    simp only [World.size_alloc] at hD
    refine ⟨by simp, .inl ⟨_, _, rfl, run_takeDeferred hK, ?_⟩⟩
    refine ⟨v, ?_, _, rfl, ?_, e7.trans (belowK_b (w := w) (Nat.le_refl _) W D _ _ (by omega) hK rfl rfl)⟩
    · have hc2 := fun o' => (put_row (o' := o') e5 hK).cell 0
      simp [results, Tryz.results92, go_sem, hc2]
    · rw [las_some l g hg k (by omega) pre x (by rw [← e1, hlen]; exact hps) e2 e3]
      exact own_lower2 (put_own e6 hK) (by omega)
theorem last_any (l : List Sg) (hw : ∀ s ∈ l, s.Ok) (hl : l.length ≤ 1000) (hl0 : 0 < l.length) {w : World} {Bl : Nat} {v : Value} (hL : w.ownsRow Bl 103 3 v l.length (segL l)) :
    Calls Tryz.prog 92 #[v] w fun e w' => ∃ v', e = .returned v' ∧ w'.ownsRow w.heap.size 103 3 v' (lasB l).length (segL (lasB l)) ∧ Below w.heap.size w w' := by
  obtain ⟨g, cap, cur, rfl, h1, h2, h3, h4, h5, h6⟩ := own_row hL hl0
  have hlt : g < w.heap.size := h4.lt
  refine callsIn_wide.1 (last_wide l hw l.length rfl hl g cap (fun j => if h : j < l.length then ⟨l[j], hw _ (List.getElem_mem h)⟩ else ⟨zeroSg, by decide, by decide, by decide⟩) (fun j s hs => ?_) w hlt (fun j hj i hi => ?_))
  · obtain ⟨h, e⟩ := List.getElem?_eq_some_iff.1 hs
    simp only [dif_pos h]; exact e
  · simp only [dif_pos hj]
    have hat := segL_at l j l[j] (List.getElem?_eq_getElem hj) i hi
    rw [Nat.zero_add, h4.cell, ← hat, ← h6, List.getElem?_take, if_pos (by omega), Array.getElem?_toList]
end Go.Proofs.YtaaiockiojejeaaGreatDoor
