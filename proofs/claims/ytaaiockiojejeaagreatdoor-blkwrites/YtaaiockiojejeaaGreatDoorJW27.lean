/-
  What blk's number answers.
-/
import Derived.Test.YtaaiockiojejeaaGreatDoorJW25
import Derived.Test.YtaaiockiojejeaaGreatDoorJW26
import Derived.Test.YtaaiockiojejeaaGreatDoorJW19
import Derived.Deep.CutRange
import Derived.Test.YtaaiockiojejeaaGreatDoorJW4
namespace Go.Proofs.YtaaiockiojejeaaGreatDoor
open Go.RowKit
set_option linter.unusedVariables false
set_option linter.unusedSimpArgs false

theorem BytesO.bl {w W : World} {O : Nat → Prop} {la : Option Addr} {l : List Nat} (h : BytesO w O la l) (hb : Below w.heap.size w W) : BytesO W O la l :=
  ⟨fun h0 => by
    obtain ⟨b, o, e, h1, h2, h3⟩ := h.lies h0
    exact ⟨b, o, e, Nat.lt_of_lt_of_le h1 hb.size, h2, fun j hj => (hb.cell (p := ⟨b, o + j, none⟩) h1).trans (h3 j hj)⟩, h.small⟩
theorem gave_none {e : Ending} (h : GaveE none e) : ∃ z : Int, e = .returned (.tuple #[.agg zeroRg.cells, .iface 129 (.int .i64 z)]) := by
  rcases h.ex with ⟨r, q, _⟩ | ⟨_, z, e⟩
  · cases q
  · exact ⟨z, e⟩
theorem gave_some {r : Rg} {e : Ending} (h : GaveE (some r) e) : e = .returned (.tuple #[.agg r.cells, .nilIface]) := by
  rcases h.ex with ⟨r', q, e⟩ | ⟨q, _⟩
  · cases q; exact e
  · cases q
set_option maxHeartbeats 2000000 in
theorem ans_no (s : Bk) (ok : s.p.Ok) (v : Value) (hv : v.oneCell' = true) (hd : Int) (l : List Sg) (hl : l.length ≤ 1000) (hw : ∀ g ∈ l, g.Ok) {lv : Value} {Bl : Nat} (bl : List Nat) (bcap : Nat) (ba : Option Addr) {w : World} {B b p c : Nat} {f : Nat → Nat} {O : Nat → Prop} (h : RamB w B b p f c O) (hA : AreasAt w) (hG : 2 < B) (hL : w.ownsRow Bl 103 3 lv l.length (segL l)) (hbl : BytesO w O ba bl) (hbc : bl.length ≤ bcap) (hbm : bcap ≤ 9223372036854775807) (hb32 : bl.length < 4294967296) (hc9 : c ≤ 800000000) (hs : scatE p l bl.length ≠ 0) : Calls Tryz.prog 51 #[.agg (s.c v), .pointer (some ⟨b, 0, none⟩), .int .i64 hd, lv, .slice ba bl.length bcap] w fun e w' => e = .returned (.agg ((ansV p f s hd l bl).2.c v)) ∧ ∃ O', RamB w' B b p (ansV p f s hd l bl).1 (c + l.length + 3) O' ∧ Went B O O' w w' := by
  have e1 : ansV p f s hd l bl = (f, s.fail) := by unfold ansV; rw [if_neg hs]
  rw [e1]
  have HS : Hid (∀ W, Below w.heap.size w W → Calls Tryz.prog 93 #[.pointer (some ⟨b, 0, none⟩), lv, .slice ba bl.length bcap] W fun e w' => e = .returned (errR (scatE p l bl.length)) ∧ ∃ O', RamB w' B b p (if scatE p l bl.length = 0 then scatF f (partsV true bl.length l) bl else f) (c + l.length) O' ∧ Went B O O' W w') := hide (fun W hb => scato_any l hl hw bl bcap ba (h.bl hb) (hA.bl hb) hG (own_bel hL hb) (hbl.bl hb) hbc hbm (by omega))
  have HFl := hide (fun w => failed_any s ok v hv w)
  rw [if_neg hs] at HS
  have hE : ∃ z : Int, errR (scatE p l bl.length) = .iface 129 (.int .i64 z) := ⟨_, by unfold errR; rw [if_neg hs]⟩
  obtain ⟨z, hz⟩ := hE
  rw [hz] at HS
  obtain ⟨av, cap, rfl, _, _⟩ := own_form hL
  generalize bl.length = M at *
  clear hz hs e1 hbl hL
  have hB0 := h.base
  have hGw : 2 < w.heap.size := Nat.lt_of_lt_of_le hG hB0
  have hA0 := hA
  clear hA
  go_enter Tryz.func51, Tryz.ntmps51
  go_wp2_with (first | ((with_reducible refine bx_bk w.heap.size s v ?_ ?_ ?_); exact rfl; exact rfl; intro W hr hb hz) | ((with_reducible refine al_bk (w.heap.size + 1) ?_ ?_); exact hz.out; intro W hq hb' hz'; replace hr := hr.bl (hz.out ▸ hb'); replace hb := hb.trans (hb'.mono (by omega)); replace hz := hz'; have hM := h.bl hb; have hW := Went.of (O := O) hb hB0; have hA := hA0.bl hb; have hF := h.far 2; have hS : w.heap.size + 2 ≤ W.heap.size := Nat.le_of_eq hz.out.symm; have hB : B ≤ W.heap.size := Nat.le_trans hB0 hb.size; have HB := hide hb; clear hb hz hb' hz') | (go_at_call 93; (with_reducible refine (HS.out _ HB.out).mono ?_); rintro e W2 ⟨rfl, O2, hM2, hW2⟩; clear HB; replace hr := hW2.row hr (hF.at 0 (by omega)); replace hq := hW2.row hq (hF.at 1 (by omega)); replace hA := hA.wentR hG hW2; replace hF := hF.went hW2 hS; replace hS := Nat.le_trans hS hW2.size; replace hW := hW.trans hW2; replace hB := Nat.le_trans hB hW2.size; replace hM := hM2; clear hM2 hW2) | ((with_reducible refine ld_bk w.heap.size s _ hr ?_ ?_ ?_); exact rfl; exact rfl) | (go_at_call 32; (with_reducible refine (HFl.out _).mono ?_); rintro e W ⟨rfl, hbc⟩; replace hM := hM.bl hbc; replace hW := hW.bl hbc hB; replace hA := hA.bl hbc; replace hB := Nat.le_trans hB hbc.size; replace hS := Nat.le_trans hS hbc.size; replace hr := hr.bl hbc; replace hq := hq.bl hbc) | ((with_reducible refine st_bk (w.heap.size + 1) _ _ s.fail v hv hq ?_ ?_ ?_); exact rfl; exact rfl; intro W hnew ho; replace hr := hr.only ho (by omega); replace hM := hM.only ho (hF.at 1 (by omega)); replace hA := hA.onlyR ho (by omega); replace hW := hW.only ho (by omega) (by omega); replace hS := (show w.heap.size + 2 ≤ W.heap.size by rw [ho.size]; exact hS); replace hB := (show B ≤ W.heap.size by rw [ho.size]; exact hB); replace hq := hnew; clear hnew ho))
  refine bodyPost_ret (results_cell_row Tryz.results51 _ _ (w.heap.size + 1) _ _ _ _ rfl hq Tryz.underlying53 rfl size_bk) rfl ?_
  exact ⟨rfl, _, hM.more (by omega), hW⟩
set_option maxHeartbeats 2000000 in
theorem ans_half (s : Bk) (ok : s.p.Ok) (v : Value) (hv : v.oneCell' = true) (hd : Int) (l : List Sg) (hl : l.length ≤ 1000) (hw : ∀ g ∈ l, g.Ok) {lv : Value} {Bl : Nat} (bl : List Nat) (bcap : Nat) (ba : Option Addr) {w : World} {B b p c : Nat} {f : Nat → Nat} {O : Nat → Prop} (h : RamB w B b p f c O) (hA : AreasAt w) (hG : 2 < B) (hL : w.ownsRow Bl 103 3 lv l.length (segL l)) (hbl : BytesO w O ba bl) (hbc : bl.length ≤ bcap) (hbm : bcap ≤ 9223372036854775807) (hb32 : bl.length < 4294967296) (hc9 : c ≤ 800000000) (hs : scatE p l bl.length = 0) (hg0 : (giveV p (scatF f (partsV true bl.length l) bl) s.p.q0.r hd bl.length).2 = none) : Calls Tryz.prog 51 #[.agg (s.c v), .pointer (some ⟨b, 0, none⟩), .int .i64 hd, lv, .slice ba bl.length bcap] w fun e w' => e = .returned (.agg ((ansV p f s hd l bl).2.c v)) ∧ ∃ O', RamB w' B b p (ansV p f s hd l bl).1 (c + l.length + 3) O' ∧ Went B O O' w w' := by
  have e1 : ansV p f s hd l bl = ((giveV p (scatF f (partsV true bl.length l) bl) s.p.q0.r hd bl.length).1, s.fail) := by unfold ansV; rw [if_pos hs, hg0]
  rw [e1]
  clear e1
  have HS : Hid (∀ W, Below w.heap.size w W → Calls Tryz.prog 93 #[.pointer (some ⟨b, 0, none⟩), lv, .slice ba bl.length bcap] W fun e w' => e = .returned (errR (scatE p l bl.length)) ∧ ∃ O', RamB w' B b p (if scatE p l bl.length = 0 then scatF f (partsV true bl.length l) bl else f) (c + l.length) O' ∧ Went B O O' W w') := hide (fun W hb => scato_any l hl hw bl bcap ba (h.bl hb) (hA.bl hb) hG (own_bel hL hb) (hbl.bl hb) hbc hbm (by omega))
  have HFl := hide (fun w => failed_any s ok v hv w)
  have HG : Hid (∀ W O1, RamB W B b p (scatF f (partsV true bl.length l) bl) (c + l.length) O1 → AreasAt W → Calls Tryz.prog 94 #[.agg s.p.q0.r.cells, .pointer (some ⟨b, 0, none⟩), .int .i64 hd, .int .u32 (bl.length : Nat)] W fun e w' => GaveE (giveV p (scatF f (partsV true bl.length l) bl) s.p.q0.r hd bl.length).2 e ∧ ∃ O', RamB w' B b p (giveV p (scatF f (partsV true bl.length l) bl) s.p.q0.r hd bl.length).1 (c + l.length + 1 + 1 + 1) O' ∧ Went B O1 O' W w') := hide (fun W O1 hM hA => give_any s.p.q0.r ok.q0 hM hA hG hd bl.length hb32 (by omega))
  rw [if_pos hs] at HS
  rw [hs, show errR 0 = .nilIface from rfl] at HS
  have e32 : IntKind.u32.wrap (bl.length : Int) = (bl.length : Int) := by rw [IntKind.wrap_u32]; omega
  obtain ⟨av, cap, rfl, _, _⟩ := own_form hL
  generalize scatF f (partsV true bl.length l) bl = f1 at *
  generalize giveV p f1 s.p.q0.r hd bl.length = gg at *
  obtain ⟨f2, gr⟩ := gg
  simp only at HG hg0 ⊢
  subst hg0
  generalize bl.length = M at *
  clear hs hbl hL
  have hB0 := h.base
  have hGw : 2 < w.heap.size := Nat.lt_of_lt_of_le hG hB0
  have hA0 := hA
  clear hA
  go_enter Tryz.func51, Tryz.ntmps51
  go_wp2_with (first | ((with_reducible refine bx_bk w.heap.size s v ?_ ?_ ?_); exact rfl; exact rfl; intro W hr hb hz) | ((with_reducible refine al_bk (w.heap.size + 1) ?_ ?_); exact hz.out; intro W hq hb' hz'; replace hr := hr.bl (hz.out ▸ hb'); replace hb := hb.trans (hb'.mono (by omega)); replace hz := hz'; have hM := h.bl hb; have hW := Went.of (O := O) hb hB0; have hA := hA0.bl hb; have hF := h.far 2; have hS : w.heap.size + 2 ≤ W.heap.size := Nat.le_of_eq hz.out.symm; have hB : B ≤ W.heap.size := Nat.le_trans hB0 hb.size; have HB := hide hb; clear hb hz hb' hz') | (go_at_call 93; (with_reducible refine (HS.out _ HB.out).mono ?_); rintro e W2 ⟨rfl, O2, hM2, hW2⟩; clear HB; replace hr := hW2.row hr (hF.at 0 (by omega)); replace hq := hW2.row hq (hF.at 1 (by omega)); replace hA := hA.wentR hG hW2; replace hF := hF.went hW2 hS; replace hS := Nat.le_trans hS hW2.size; replace hW := hW.trans hW2; replace hB := Nat.le_trans hB hW2.size; replace hM := hM2; clear hM2 hW2) | ((with_reducible refine ld_br w.heap.size s _ _ hr ?_ ?_ ?_); exact rfl; exact rfl) | (go_at_call 94; (with_reducible refine (HG.out _ _ hM hA).mono ?_); rintro e W2 ⟨hgv, O2, hM2, hW2⟩; obtain ⟨z, rfl⟩ := gave_none hgv; clear hgv; replace hr := hW2.row hr (hF.at 0 (by omega)); replace hq := hW2.row hq (hF.at 1 (by omega)); replace hA := hA.wentR hG hW2; replace hF := hF.went hW2 hS; replace hS := Nat.le_trans hS hW2.size; replace hW := hW.trans hW2; replace hB := Nat.le_trans hB hW2.size; replace hM := hM2; clear hM2 hW2; obtain ⟨NX, hNX0⟩ : ∃ n, W2.heap.size = n := ⟨_, rfl⟩; have hNX := hide hNX0; have hd1 : w.heap.size + 2 ≤ NX := hNX0 ▸ hS; clear hNX0) | ((with_reducible refine al_rp NX ?_ ?_); exact hNX.out; intro W hg hb' hz'; have hgO : ¬ O2 NX := (fun e => absurd (hM.lt NX e) (by rw [hNX.out]; omega)); have hbc := hNX.out ▸ hb'; replace hM := hM.bl hbc; replace hW := hW.bl hbc hB; replace hA := hA.bl hbc; replace hB := Nat.le_trans hB hbc.size; replace hS := Nat.le_trans hS hbc.size; replace hr := hr.bl hbc; replace hq := hq.bl hbc; clear hb' hbc) | ((with_reducible refine st_rp NX _ zeroRg hg ?_ ?_ ?_); exact rfl; exact rfl; intro W hnew ho; replace hr := hr.only ho (by omega); replace hq := hq.only ho (by omega); replace hM := hM.only ho hgO; replace hA := hA.onlyR ho (by omega); replace hW := hW.only ho (by omega) (by omega); replace hS := (show w.heap.size + 2 ≤ W.heap.size by rw [ho.size]; exact hS); replace hB := (show B ≤ W.heap.size by rw [ho.size]; exact hB); replace hg := hnew; clear hnew ho) | ((with_reducible refine ld_bk w.heap.size s _ hr ?_ ?_ ?_); exact rfl; exact rfl) | (go_at_call 32; (with_reducible refine (HFl.out _).mono ?_); rintro e W ⟨rfl, hbc⟩; replace hM := hM.bl hbc; replace hW := hW.bl hbc hB; replace hA := hA.bl hbc; replace hB := Nat.le_trans hB hbc.size; replace hS := Nat.le_trans hS hbc.size; replace hr := hr.bl hbc; replace hq := hq.bl hbc) | ((with_reducible refine st_bk (w.heap.size + 1) _ _ s.fail v hv hq ?_ ?_ ?_); exact rfl; exact rfl; intro W hnew ho; replace hr := hr.only ho (by omega); replace hM := hM.only ho (hF.at 1 (by omega)); replace hA := hA.onlyR ho (by omega); replace hW := hW.only ho (by omega) (by omega); replace hS := (show w.heap.size + 2 ≤ W.heap.size by rw [ho.size]; exact hS); replace hB := (show B ≤ W.heap.size by rw [ho.size]; exact hB); replace hq := hnew; clear hnew ho))
  refine bodyPost_ret (results_cell_row Tryz.results51 _ _ (w.heap.size + 1) _ _ _ _ rfl hq Tryz.underlying53 rfl size_bk) rfl ?_
  exact ⟨rfl, _, hM.more (by omega), hW⟩
set_option maxHeartbeats 2000000 in
theorem ans_ok (s : Bk) (ok : s.p.Ok) (v : Value) (hv : v.oneCell' = true) (hd : Int) (l : List Sg) (hl : l.length ≤ 1000) (hw : ∀ g ∈ l, g.Ok) {lv : Value} {Bl : Nat} (bl : List Nat) (bcap : Nat) (ba : Option Addr) {w : World} {B b p c : Nat} {f : Nat → Nat} {O : Nat → Prop} (h : RamB w B b p f c O) (hA : AreasAt w) (hG : 2 < B) (hL : w.ownsRow Bl 103 3 lv l.length (segL l)) (hbl : BytesO w O ba bl) (hbc : bl.length ≤ bcap) (hbm : bcap ≤ 9223372036854775807) (hb32 : bl.length < 4294967296) (hc9 : c ≤ 800000000) (hs : scatE p l bl.length = 0) (r : Rg) (hrg : r.Ok) (hg0 : (giveV p (scatF f (partsV true bl.length l) bl) s.p.q0.r hd bl.length).2 = some r) : Calls Tryz.prog 51 #[.agg (s.c v), .pointer (some ⟨b, 0, none⟩), .int .i64 hd, lv, .slice ba bl.length bcap] w fun e w' => e = .returned (.agg ((ansV p f s hd l bl).2.c v)) ∧ ∃ O', RamB w' B b p (ansV p f s hd l bl).1 (c + l.length + 3) O' ∧ Went B O O' w w' := by
  have e1 : ansV p f s hd l bl = ((giveV p (scatF f (partsV true bl.length l) bl) s.p.q0.r hd bl.length).1, (s.ring r).used) := by unfold ansV; rw [if_pos hs, hg0]
  rw [e1]
  clear e1
  have HS : Hid (∀ W, Below w.heap.size w W → Calls Tryz.prog 93 #[.pointer (some ⟨b, 0, none⟩), lv, .slice ba bl.length bcap] W fun e w' => e = .returned (errR (scatE p l bl.length)) ∧ ∃ O', RamB w' B b p (if scatE p l bl.length = 0 then scatF f (partsV true bl.length l) bl else f) (c + l.length) O' ∧ Went B O O' W w') := hide (fun W hb => scato_any l hl hw bl bcap ba (h.bl hb) (hA.bl hb) hG (own_bel hL hb) (hbl.bl hb) hbc hbm (by omega))
  have HG : Hid (∀ W O1, RamB W B b p (scatF f (partsV true bl.length l) bl) (c + l.length) O1 → AreasAt W → Calls Tryz.prog 94 #[.agg s.p.q0.r.cells, .pointer (some ⟨b, 0, none⟩), .int .i64 hd, .int .u32 (bl.length : Nat)] W fun e w' => GaveE (giveV p (scatF f (partsV true bl.length l) bl) s.p.q0.r hd bl.length).2 e ∧ ∃ O', RamB w' B b p (giveV p (scatF f (partsV true bl.length l) bl) s.p.q0.r hd bl.length).1 (c + l.length + 1 + 1 + 1) O' ∧ Went B O1 O' W w') := hide (fun W O1 hM hA => give_any s.p.q0.r ok.q0 hM hA hG hd bl.length hb32 (by omega))
  rw [if_pos hs] at HS
  rw [hs, show errR 0 = .nilIface from rfl] at HS
  have e32 : IntKind.u32.wrap (bl.length : Int) = (bl.length : Int) := by rw [IntKind.wrap_u32]; omega
  obtain ⟨av, cap, rfl, _, _⟩ := own_form hL
  generalize scatF f (partsV true bl.length l) bl = f1 at *
  generalize giveV p f1 s.p.q0.r hd bl.length = gg at *
  obtain ⟨f2, gr⟩ := gg
  simp only at HG hg0 ⊢
  subst hg0
  generalize bl.length = M at *
  clear hs hbl hL
  have hu : (s.ring r).p.Ok := ⟨ok.st, ok.fs, ok.ds, ok.se, ok.ir, ok.d0, ok.d1, hrg, ok.q1⟩
  obtain ⟨s1, hs1⟩ : ∃ x, s.ring r = x := ⟨_, rfl⟩
  have HS1 := hide hs1
  rw [hs1] at hu ⊢
  have HU := hide (fun w => used_any s1.p hu w)
  obtain ⟨s2, hs2⟩ : ∃ x, s1.pw (usedV s1.p) = x := ⟨_, rfl⟩
  have HS2 := hide hs2
  rw [show s1.used = s1.pw (usedV s1.p) from rfl, hs2]
  generalize usedV s1.p = up at *
  clear hs1 hs2 hu
  have hB0 := h.base
  have hGw : 2 < w.heap.size := Nat.lt_of_lt_of_le hG hB0
  have hA0 := hA
  clear hA
  go_enter Tryz.func51, Tryz.ntmps51
  go_wp2_with (first | ((with_reducible refine bx_bk w.heap.size s v ?_ ?_ ?_); exact rfl; exact rfl; intro W hr hb hz) | ((with_reducible refine al_bk (w.heap.size + 1) ?_ ?_); exact hz.out; intro W hq hb' hz'; replace hr := hr.bl (hz.out ▸ hb'); replace hb := hb.trans (hb'.mono (by omega)); replace hz := hz'; have hM := h.bl hb; have hW := Went.of (O := O) hb hB0; have hA := hA0.bl hb; have hF := h.far 2; have hS : w.heap.size + 2 ≤ W.heap.size := Nat.le_of_eq hz.out.symm; have hB : B ≤ W.heap.size := Nat.le_trans hB0 hb.size; have HB := hide hb; clear hb hz hb' hz') | (go_at_call 93; (with_reducible refine (HS.out _ HB.out).mono ?_); rintro e W2 ⟨rfl, O2, hM2, hW2⟩; clear HB; replace hr := hW2.row hr (hF.at 0 (by omega)); replace hq := hW2.row hq (hF.at 1 (by omega)); replace hA := hA.wentR hG hW2; replace hF := hF.went hW2 hS; replace hS := Nat.le_trans hS hW2.size; replace hW := hW.trans hW2; replace hB := Nat.le_trans hB hW2.size; replace hM := hM2; clear hM2 hW2) | ((with_reducible refine ld_br w.heap.size s _ _ hr ?_ ?_ ?_); exact rfl; exact rfl) | (go_at_call 94; (with_reducible refine (HG.out _ _ hM hA).mono ?_); rintro e W2 ⟨hgv, O2, hM2, hW2⟩; obtain rfl := gave_some hgv; clear hgv; replace hr := hW2.row hr (hF.at 0 (by omega)); replace hq := hW2.row hq (hF.at 1 (by omega)); replace hA := hA.wentR hG hW2; replace hF := hF.went hW2 hS; replace hS := Nat.le_trans hS hW2.size; replace hW := hW.trans hW2; replace hB := Nat.le_trans hB hW2.size; replace hM := hM2; clear hM2 hW2; obtain ⟨NX, hNX0⟩ : ∃ n, W2.heap.size = n := ⟨_, rfl⟩; have hNX := hide hNX0; have hd1 : w.heap.size + 2 ≤ NX := hNX0 ▸ hS; clear hNX0) | ((with_reducible refine al_rp NX ?_ ?_); exact hNX.out; intro W hg hb' hz'; have hgO : ¬ O2 NX := (fun e => absurd (hM.lt NX e) (by rw [hNX.out]; omega)); have hbc := hNX.out ▸ hb'; replace hM := hM.bl hbc; replace hW := hW.bl hbc hB; replace hA := hA.bl hbc; replace hB := Nat.le_trans hB hbc.size; replace hS := Nat.le_trans hS hbc.size; replace hr := hr.bl hbc; replace hq := hq.bl hbc; clear hb' hbc) | ((with_reducible refine st_rp NX _ r hg ?_ ?_ ?_); exact rfl; exact rfl; intro W hnew ho; replace hr := hr.only ho (by omega); replace hq := hq.only ho (by omega); replace hM := hM.only ho hgO; replace hA := hA.onlyR ho (by omega); replace hW := hW.only ho (by omega) (by omega); replace hS := (show w.heap.size + 2 ≤ W.heap.size by rw [ho.size]; exact hS); replace hB := (show B ≤ W.heap.size by rw [ho.size]; exact hB); replace hg := hnew; clear hnew ho) | ((with_reducible refine ld_rp NX r hg ?_ ?_ ?_); exact rfl; exact rfl) | ((with_reducible refine st_br w.heap.size s v r _ hr ?_ ?_ ?_); exact rfl; exact rfl; intro W hnew ho; rw [HS1.out] at hnew; replace hq := hq.only ho (by omega); replace hg := hg.only ho (by omega); replace hM := hM.only ho (hF.at 0 (by omega)); replace hA := hA.onlyR ho (by omega); replace hW := hW.only ho (by omega) (by omega); replace hS := (show w.heap.size + 2 ≤ W.heap.size by rw [ho.size]; exact hS); replace hB := (show B ≤ W.heap.size by rw [ho.size]; exact hB); replace hr := hnew; clear hnew ho) | ((with_reducible refine ld_bp w.heap.size s1 _ _ hr ?_ ?_ ?_); exact rfl; exact rfl) | (go_at_call 95; (with_reducible refine (HU.out _).mono ?_); rintro e W ⟨rfl, hbc⟩; replace hM := hM.bl hbc; replace hW := hW.bl hbc hB; replace hA := hA.bl hbc; replace hB := Nat.le_trans hB hbc.size; replace hS := Nat.le_trans hS hbc.size; replace hr := hr.bl hbc; replace hq := hq.bl hbc; replace hg := hg.bl hbc) | ((with_reducible refine st_bp w.heap.size s1 v up _ hr ?_ ?_ ?_); exact rfl; exact rfl; intro W hnew ho; rw [HS2.out] at hnew; replace hq := hq.only ho (by omega); replace hg := hg.only ho (by omega); replace hM := hM.only ho (hF.at 0 (by omega)); replace hA := hA.onlyR ho (by omega); replace hW := hW.only ho (by omega) (by omega); replace hS := (show w.heap.size + 2 ≤ W.heap.size by rw [ho.size]; exact hS); replace hB := (show B ≤ W.heap.size by rw [ho.size]; exact hB); replace hr := hnew; clear hnew ho) | ((with_reducible refine ld_bk w.heap.size s2 _ hr ?_ ?_ ?_); exact rfl; exact rfl) | ((with_reducible refine st_bk (w.heap.size + 1) _ _ s2 v hv hq ?_ ?_ ?_); exact rfl; exact rfl; intro W hnew ho; replace hr := hr.only ho (by omega); replace hg := hg.only ho (by omega); replace hM := hM.only ho (hF.at 1 (by omega)); replace hA := hA.onlyR ho (by omega); replace hW := hW.only ho (by omega) (by omega); replace hS := (show w.heap.size + 2 ≤ W.heap.size by rw [ho.size]; exact hS); replace hB := (show B ≤ W.heap.size by rw [ho.size]; exact hB); replace hq := hnew; clear hnew ho))
  refine bodyPost_ret (results_cell_row Tryz.results51 _ _ (w.heap.size + 1) _ _ _ _ rfl hq Tryz.underlying53 rfl size_bk) rfl ?_
  exact ⟨rfl, _, hM.more (by omega), hW⟩
theorem givenR_ok {p : Nat} {f : Nat → Nat} {r r' : Rg} {hd : Int} {n : Nat} (h : r.Ok) (e : (giveV p f r hd n).2 = some r') : r'.Ok := by
  unfold giveV at e
  repeat' split at e
  all_goals first
    | (cases e; exact ⟨h.sz0, h.sz1, h.de, h.av, h.us, h.la, Nat.mod_lt _ (by decide)⟩)
    | cases e
theorem answer_any (s : Bk) (ok : s.p.Ok) (v : Value) (hv : v.oneCell' = true) (hd : Int) (l : List Sg) (hl : l.length ≤ 1000) (hw : ∀ g ∈ l, g.Ok) {lv : Value} {Bl : Nat} (bl : List Nat) (bcap : Nat) (ba : Option Addr) {w : World} {B b p c : Nat} {f : Nat → Nat} {O : Nat → Prop} (h : RamB w B b p f c O) (hA : AreasAt w) (hG : 2 < B) (hL : w.ownsRow Bl 103 3 lv l.length (segL l)) (hbl : BytesO w O ba bl) (hbc : bl.length ≤ bcap) (hbm : bcap ≤ 9223372036854775807) (hb32 : bl.length < 4294967296) (hc9 : c ≤ 800000000) : Calls Tryz.prog 51 #[.agg (s.c v), .pointer (some ⟨b, 0, none⟩), .int .i64 hd, lv, .slice ba bl.length bcap] w fun e w' => e = .returned (.agg ((ansV p f s hd l bl).2.c v)) ∧ ∃ O', RamB w' B b p (ansV p f s hd l bl).1 (c + l.length + 3) O' ∧ Went B O O' w w' := by
  by_cases hs : scatE p l bl.length = 0
  · cases hg : (giveV p (scatF f (partsV true bl.length l) bl) s.p.q0.r hd bl.length).2 with
    | none => exact ans_half s ok v hv hd l hl hw bl bcap ba h hA hG hL hbl hbc hbm hb32 hc9 hs hg
    | some r => exact ans_ok s ok v hv hd l hl hw bl bcap ba h hA hG hL hbl hbc hbm hb32 hc9 hs r (givenR_ok ok.q0 hg) hg
  · exact ans_no s ok v hv hd l hl hw bl bcap ba h hA hG hL hbl hbc hbm hb32 hc9 hs
end Go.Proofs.YtaaiockiojejeaaGreatDoor
namespace Go.Proofs.YtaaiockiojejeaaGreatDoor
open Go.RowKit
set_option linter.unusedVariables false
set_option linter.unusedSimpArgs false

/-- The memory's blocks, and a list's own. -/
def Or1 (O : Nat → Prop) (v : Value) : Nat → Prop := fun x => O x ∨ v.ownBlock = some x
theorem Went.or {B : Nat} {O O' : Nat → Prop} {w W : World} (h : Went B O O' w W) (v : Value) : Went B (Or1 O v) (Or1 O' v) w W :=
  ⟨h.below, h.size, fun x hx hn => h.other x hx (fun e => hn (.inl e)), fun x hx e => e.elim (fun k => .inl (h.own x hx k)) .inr⟩
/-- .. behind one that began when the list was not there. -/
theorem Went.then1 {B : Nat} {O O1 O2 : Nat → Prop} {w W W' : World} {v v' : Value} (h : Went B O O1 w W) (k : Went B (Or1 O1 v) (Or1 O2 v') W W') (hv : ∀ g, v.ownBlock = some g → w.heap.size ≤ g) : Went B O O2 w W' :=
  ⟨h.below.trans k.below, Nat.le_trans h.size k.size, fun x hx hn => (k.other x (Nat.lt_of_lt_of_le hx h.size) (fun e => e.elim (fun q => hn (h.own x hx q)) (fun q => absurd (hv x q) (by omega)))).trans (h.other x hx hn),
   fun x hx e => by
    rcases k.own x (Nat.lt_of_lt_of_le hx h.size) (.inl e) with q | q
    · exact h.own x hx q
    · exact absurd (hv x q) (by omega)⟩
/-- What the disk is asked for, with its data. -/
structure AkAt (w : World) (B : Nat) (O : Nat → Prop) (k : Ak) (dv : Value) : Prop where
  ex : (k.da = [] ∧ dv = nilS) ∨ ∃ g cap all, dv = .slice (some ⟨g, 16, none⟩) (all.length - 16) (cap - 16) ∧ w.ownsRow B 5 1 (.slice (some ⟨g, 0, none⟩) all.length cap) all.length (byteV all) ∧ 16 < all.length ∧ k.da = all.drop 16 ∧ ¬ O g ∧ ∀ y ∈ all, y < 256
/-- A list of what the disk is asked for. -/
structure AsksAt (w : World) (B : Nat) (O : Nat → Prop) (av : Value) (l : List (Ak × Value)) : Prop where
  row : w.ownsRow B 81 5 av l.length (askL l)
  dat : ∀ x ∈ l, AkAt w B O x.1 x.2
  far : ∀ g, av.ownBlock = some g → ¬ O g
theorem AkAt.one {w : World} {B : Nat} {O : Nat → Prop} {k : Ak} {dv : Value} (h : AkAt w B O k dv) : dv.oneCell' = true := by
  rcases h.ex with ⟨_, rfl⟩ | ⟨_, _, _, rfl, _⟩ <;> rfl
theorem AkAt.keep {w W : World} {B : Nat} {O O' : Nat → Prop} {k : Ak} {dv : Value} (h : AkAt w B O k dv) (hk : ∀ g cs, RowAt w g cs 5 → ¬ O g → W.heap[g]? = w.heap[g]? ∧ ¬ O' g) : AkAt W B O' k dv := by
  rcases h.ex with h | ⟨g, cap, all, e1, e2, e3, e4, e5, e6⟩
  · exact ⟨.inl h⟩
  · obtain ⟨g', cap', cur, hve, _, _, _, hr, _, _⟩ := own_row e2 (by omega)
    injection hve with q1 q2 q3
    cases q1
    obtain ⟨k1, k2⟩ := hk g cur hr e5
    exact ⟨.inr ⟨g, cap, all, e1, own_at e2 (fun x hx => by cases hx; exact k1), e3, e4, k2, e6⟩⟩
theorem AsksAt.keep {w W : World} {B : Nat} {O O' : Nat → Prop} {av : Value} {l : List (Ak × Value)} (h : AsksAt w B O av l) (hk : ∀ g cs t, RowAt w g cs t → (t = 5 ∨ t = 81) → ¬ O g → W.heap[g]? = w.heap[g]? ∧ ¬ O' g) : AsksAt W B O' av l := by
  have hrow : ∀ g, av.ownBlock = some g → ∃ cs, RowAt w g cs 81 := fun g hg => by
    rcases h.row.2 with ⟨h1, _⟩ | ⟨g', cap, cur, h1, _, h3, _⟩
    · rw [h1] at hg; cases hg
    · rw [h1] at hg; cases hg; exact ⟨cur, h3⟩
  refine ⟨own_at h.row (fun g hg => ?_), fun x hx => (h.dat x hx).keep (fun g cs hr hn => hk g cs _ hr (.inl rfl) hn), fun g hg => ?_⟩
  · obtain ⟨cs, hr⟩ := hrow g hg
    exact (hk g cs _ hr (.inr rfl) (h.far g hg)).1
  · obtain ⟨cs, hr⟩ := hrow g hg
    exact (hk g cs _ hr (.inr rfl) (h.far g hg)).2
theorem AsksAt.bl {w W : World} {B : Nat} {O : Nat → Prop} {av : Value} {l : List (Ak × Value)} (h : AsksAt w B O av l) (hb : Below w.heap.size w W) : AsksAt W B O av l :=
  h.keep (fun g cs t hr _ hn => ⟨hb.block g hr.lt, hn⟩)
theorem AsksAt.went {w W : World} {B Bm : Nat} {O O' : Nat → Prop} {av : Value} {l : List (Ak × Value)} (h : AsksAt w B O av l) (hw : Went Bm O O' w W) : AsksAt W B O' av l :=
  h.keep (fun g cs t hr _ hn => ⟨hw.other g hr.lt hn, hw.no hr.lt hn⟩)
theorem in_ty {w : World} {B : Nat} {O : Nat → Prop} {v : Value} {l : List (Rq × Value)} {g : Nat} {cs : Array Value} {t : TypeId} (h : InAt w B O v l) (hr : RowAt w g cs t) (ht : t ≠ 102) : v.ownBlock ≠ some g := fun e => ht (own_ty h.row e hr)
theorem AsksAt.went1 {w W : World} {B Bi Bm : Nat} {O O' : Nat → Prop} {v v' av : Value} {l : List (Ak × Value)} {li : List (Rq × Value)} (h : AsksAt w B O av l) (hI : InAt w Bi O v li) (hw : Went Bm (Or1 O v) (Or1 O' v') w W) : AsksAt W B O' av l :=
  h.keep (fun g cs t hr ht hn => by
    have hne : v.ownBlock ≠ some g := in_ty hI hr (by rcases ht with rfl | rfl <;> decide)
    have hno : ¬ Or1 O v g := fun e => e.elim hn hne
    exact ⟨hw.other g hr.lt hno, fun k => hno (hw.own g hr.lt (.inl k))⟩)
theorem AsksAt.only {w W : World} {B g : Nat} {O : Nat → Prop} {av : Value} {l : List (Ak × Value)} {cs : Array Value} {t : TypeId} (h : AsksAt w B O av l) (ho : Only g w W) (hr : RowAt w g cs t) (h1 : t ≠ 5) (h2 : t ≠ 81) : AsksAt W B O av l :=
  h.keep (fun x cx tx hx ht hn => ⟨ho.row x (fun e => by
    subst e
    have := hr.symm.trans hx
    simp at this
    rcases ht with q | q
    · exact h1 (this.2.trans q)
    · exact h2 (this.2.trans q)), hn⟩)
theorem own_grow {w W : World} {B e sz n : Nat} {v u : Value} {xs : List Value} {cs : Array Value} {t : TypeId} (h : w.ownsRow B e sz u n xs) (hg : w.grownBy W v.ownBlock) (hr : ∀ g, v.ownBlock = some g → ∃ cs, RowAt w g cs t) (ht : t ≠ e) : W.ownsRow B e sz u n xs :=
  own_at h (fun g hgu => hg.block g (h.lt g hgu).2 (fun k => by
    obtain ⟨cs, hr⟩ := hr g k.symm
    exact ht (own_ty h hgu hr)))
theorem InAt.rowT {w : World} {B : Nat} {O : Nat → Prop} {v : Value} {l : List (Rq × Value)} (h : InAt w B O v l) : ∀ g, v.ownBlock = some g → ∃ cs, RowAt w g cs 102 := fun g hg => by
  rcases h.row.2 with ⟨h1, _⟩ | ⟨g', cap, cur, h1, _, h3, _⟩
  · rw [h1] at hg; cases hg
  · rw [h1] at hg; cases hg; exact ⟨cur, h3⟩
/-- One request more. -/
theorem InAt.app {w W : World} {B : Nat} {O : Nat → Prop} {v v' wv : Value} {l : List (Rq × Value)} {q : Rq} (h : InAt w B O v l) (hr : W.ownsRow B 102 6 v' (l.length + 1) (reqL (l ++ [(q, wv)]))) (hg : w.grownBy W v.ownBlock) (hbk : v'.ownBlock = v.ownBlock ∨ v'.ownBlock = some w.heap.size) (hO : ∀ x, O x → x < w.heap.size)
    (hw : w.ownsRow B 103 3 wv q.l.length (segL q.l)) (hwn : ∀ g, wv.ownBlock = some g → ¬ O g) : InAt W B O v' (l ++ [(q, wv)]) := by
  refine ⟨by rw [List.length_append]; exact hr, fun x hx => ?_, fun g e => ?_, fun x hx g e => ?_⟩
  · rcases List.mem_append.1 hx with h1 | h1
    · exact own_grow (cs := #[]) (h.own x h1) hg h.rowT (by decide)
    · rw [List.mem_singleton.1 h1]; exact own_grow (cs := #[]) hw hg h.rowT (by decide)
  · rcases hbk with k | k
    · exact h.far g (k ▸ e)
    · rw [k] at e; cases e; exact fun k => absurd (hO _ k) (by omega)
  · rcases List.mem_append.1 hx with h1 | h1
    · exact h.fars x h1 g e
    · rw [List.mem_singleton.1 h1] at e; exact hwn g e
theorem went_app {B Bi : Nat} {O O1 : Nat → Prop} {w W W' : World} {v v' : Value} (h : Went B O O1 w W) (hg : W.grownBy W' v.ownBlock) (hbk : v'.ownBlock = v.ownBlock ∨ v'.ownBlock = some W.heap.size) (hv : ∀ g, v.ownBlock = some g → Bi ≤ g) (hB : B ≤ Bi) (hB2 : B ≤ w.heap.size) : Went B (Or1 O v) (Or1 O1 v') w W' :=
  ⟨grow_below h.below hg (Nat.le_trans hB2 h.size) (fun x hx => Nat.le_trans hB (hv x hx)), Nat.le_trans h.size hg.size,
   fun x hx hn => (hg.block x (Nat.lt_of_lt_of_le hx h.size) (fun k => hn (.inr k.symm))).trans (h.other x hx (fun e => hn (.inl e))),
   fun x hx e => by
    rcases e with e | e
    · exact .inl (h.own x hx e)
    · rcases hbk with k | k
      · exact .inr (k ▸ e)
      · rw [k] at e; cases e; exact absurd h.size (by omega)⟩
theorem went_onlyO {B g : Nat} {O O1 : Nat → Prop} {w w1 w2 : World} (h : Went B O O1 w w1) (ho : Only g w1 w2) (hg : w.heap.size ≤ g) (hB : B ≤ g) : Went B O O1 w w2 := h.only ho hg hB
theorem in_seg_ne {w : World} {B g : Nat} {O : Nat → Prop} {v : Value} {l : List (Rq × Value)} {x : Rq × Value} {cs : Array Value} (h : InAt w B O v l) (hx : x ∈ l) (e : x.2.ownBlock = some g) (hr : RowAt w g cs 53) : False := absurd (own_ty (h.own x hx) e hr) (by decide)
end Go.Proofs.YtaaiockiojejeaaGreatDoor
namespace Go.Proofs.YtaaiockiojejeaaGreatDoor
open Go.RowKit
set_option linter.unusedVariables false
set_option linter.unusedSimpArgs false

theorem own_askX {w : World} {B g : Nat} {k k' : Ak} {u : Value} (hr : RowAt w g (k.c u) 81) (hB : B ≤ g) (hk : k.c u = k'.c u) : w.ownsRow B 81 5 (.slice (some ⟨g, 0, none⟩) 1 1) [(k', u)].length (askL [(k', u)]) := by
  refine ⟨by rw [askL_len], .inr ⟨g, 1, k.c u, rfl, hB, hr, Nat.le_refl _, by decide, rfl, ?_⟩⟩
  rw [askL_one, hk]
  rfl
/-- How far the next number has come. -/
def nxM (SB nx k : Nat) (w : World) : Nat := match w.cell? ⟨SB, 23, none⟩ with
  | some (.int .u32 z) => k - (z.toNat + 4294967296 - nx) % 4294967296
  | _ => 0
theorem nxM_at {w : World} {SB nx k j t : Nat} {s : Bk} {v : Value} (h : RowAt w SB (({ s with nx := (nx + j) % 4294967296 } : Bk).c v) t) (hn : nx < 4294967296) (hj : j < 4294967296) : nxM SB nx k w = k - j := by
  unfold nxM
  rw [h.cell 23, Bk.at23]
  show k - ((((nx + j) % 4294967296 : Nat) : Int).toNat + 4294967296 - nx) % 4294967296 = k - j
  rw [Int.toNat_natCast]
  congr 1
  omega
theorem u32_mod (n : Nat) : IntKind.u32.wrap (n : Int) = ((n % 4294967296 : Nat) : Int) := by rw [IntKind.wrap_u32]; omega
theorem bs_req (q : Rq) (a : Option Addr) (n c : Nat) : BuiltR Tryz.prog 102 1 [(0, .agg (q.c (.slice a n c)))] (q.c (.slice a n c)) := ⟨by kernel_rfl⟩
theorem bs_ask (q : Ak) (a : Option Addr) (n c : Nat) : BuiltR Tryz.prog 81 1 [(0, .agg (q.c (.slice a n c)))] (q.c (.slice a n c)) := ⟨by kernel_rfl⟩
end Go.Proofs.YtaaiockiojejeaaGreatDoor
namespace Go.Proofs.YtaaiockiojejeaaGreatDoor
open Go.RowKit Go.Shelf
set_option linter.unusedVariables false

attribute [local go_sem] Oper.semAt_some
/-- The number of what has come. -/
def acc8 (pre : List Pair) : Nat := pre.foldl (fun s x => s * 256 % 18446744073709551616 ||| x.2.toNat) 0
theorem acc8_snoc (pre : List Pair) (x : Pair) : acc8 (pre ++ [x]) = (acc8 pre * 256 % 18446744073709551616 ||| x.2.toNat) := by simp [acc8]
theorem acc8_lt (pre : List Pair) : acc8 pre < 18446744073709551616 := by
  rcases List.eq_nil_or_concat pre with rfl | ⟨l, x, rfl⟩
  · decide
  · rw [List.concat_eq_append, acc8_snoc]
    have : x.2.toNat < 256 := x.2.toNat_lt
    exact Nat.or_lt_two_pow (n := 64) (Nat.mod_lt _ (by decide)) (by omega)
theorem acc8_arith (pre : List Pair) (x : Pair) : bits .or .u64 ((acc8 pre : Int) * 256 % 18446744073709551616) (x.2.toNat : Int) = ((acc8 (pre ++ [x]) : Nat) : Int) := by
  rw [acc8_snoc]
  have h1 : ((acc8 pre : Int) * 256 % 18446744073709551616) = ((acc8 pre * 256 % 18446744073709551616 : Nat) : Int) := by simp
  have : x.2.toNat < 256 := x.2.toNat_lt
  rw [h1, u64_or_nat _ _ (Nat.mod_lt _ (by decide)) (by omega)]
/-- What has come of bytes gone over backwards is their number. -/
theorem acc8_nm (l : List Nat) (hl : ∀ y ∈ l, y < 256) (h8 : l.length ≤ 8) : acc8 (upto (downAt (fun j => UInt8.ofNat ((l[j]?).getD 0)) l.length) l.length) = nmL l := by
  have key : ∀ k, k ≤ l.length → acc8 (upto (downAt (fun j => UInt8.ofNat ((l[j]?).getD 0)) l.length) k) = nmL (l.drop (l.length - k)) ∧ nmL (l.drop (l.length - k)) < 256 ^ k := by
    intro k
    induction k with
    | zero => intro _; rw [Nat.sub_zero, List.drop_length]; exact ⟨rfl, by decide⟩
    | succ k ih =>
      intro hk
      obtain ⟨i1, i2⟩ := ih (by omega)
      have hj : l.length - (k + 1) < l.length := by omega
      have hd : l.drop (l.length - (k + 1)) = l[l.length - (k + 1)] :: l.drop (l.length - k) := by
        rw [List.drop_eq_getElem_cons hj, show l.length - (k + 1) + 1 = l.length - k by omega]
      have hy := hl _ (List.getElem_mem hj)
      have hv : (downAt (fun j => UInt8.ofNat ((l[j]?).getD 0)) l.length k).2.toNat = l[l.length - (k + 1)] := by
        show (UInt8.ofNat ((l[l.length - 1 - k]?).getD 0)).toNat = _
        rw [show l.length - 1 - k = l.length - (k + 1) by omega, List.getElem?_eq_getElem hj]
        show (UInt8.ofNat l[l.length - (k + 1)]).toNat = _
        simp; omega
      have hk7 : (256 : Nat) ^ k ≤ 256 ^ 7 := Nat.pow_le_pow_right (by decide) (by omega)
      have h7 : (256 : Nat) ^ 7 = 72057594037927936 := by decide
      rw [upto_succ, acc8_snoc, hv, i1, hd]
      have hm : nmL (l.drop (l.length - k)) * 256 % 18446744073709551616 = nmL (l.drop (l.length - k)) * 256 := Nat.mod_eq_of_lt (by omega)
      rw [hm, show nmL (l.drop (l.length - k)) * 256 = nmL (l.drop (l.length - k)) * 2 ^ 8 from rfl, ← Nat.shiftLeft_eq, ← Nat.shiftLeft_add_eq_or_of_lt (by omega)]
      simp only [nmL, Nat.shiftLeft_eq]
      refine ⟨by omega, ?_⟩
      rw [Nat.pow_succ]
      have := Nat.mul_le_mul_left 256 (show nmL (l.drop (l.length - k)) + 1 ≤ 256 ^ k by omega)
      omega
  have := (key l.length (Nat.le_refl _)).1
  rwa [Nat.sub_self, List.drop_zero] at this
set_option maxRecDepth 100000 in
set_option maxHeartbeats 2000000 in
theorem number_wide (b off len cap : Nat) (g : Nat → UInt8) (hmax : len ≤ 140737488351232) (w : World) (hb : b < w.heap.size)
    (hc : ∀ j, j < len → w.cell? ⟨b, off + j, none⟩ = some (.int .u8 ((g j).toNat : Int))) :
    CallsIn Fence.wide 3 Tryz.prog 73 #[.slice (some ⟨b, off, none⟩) len cap] w fun e W' => e = .returned (.int .u64 (acc8 (upto (downAt g len) len) : Nat)) ∧ Below w.heap.size w W' := by
  have h1 : 1 ≤ 3 := by omega
  have hro : Fence.wide.round = none := rfl
  refine callsIn_of_wp_marks Tryz.func73 rfl trivial ?_ hro
  simp only [Tryz.ntmps73, List.size_toArray, List.length_cons, List.length_nil, Nat.reduceAdd, Nat.reduceSub, Array.replicate_succ, Array.replicate_zero, List.push_toArray, List.append_toArray, List.nil_append, List.cons_append]
  gi_wp2_with (first | (refine ⟨trivial, ?_⟩; gi_at_call 108; refine (backward_in Fence.wide _ trivial hro _ _ _ _).mono ?_; rintro e w' ⟨rfl, rfl⟩))
  have bS := Boxed.new w 108 (.int .u64 0)
  have bN := Boxed.new (w.alloc (.cells #[.int .u64 0] 108)) 37 (.slice (some ⟨b, off, none⟩) len cap)
  rw [World.size_alloc] at bN
  have hB0 : Below w.heap.size w ((w.alloc (.cells #[.int .u64 0] 108)).alloc (.cells #[.slice (some ⟨b, off, none⟩) len cap] 37)) := ((Below.refl _ w).alloc (Nat.le_refl _) _).alloc (by simp) _
  refine wpIn_rangeFunc_ownG hro h1 (gf := 133) (lb := #[.pointer (some ⟨w.heap.size + 1, 0, none⟩)]) rfl trivial (enters_of Tryz.func133 (by kernel_rfl) rfl)
    (backward_stops Fence.wide (3 - 1) trivial hro (by omega) (w.heap.size + 1) w.heap.size b off len cap g (by omega) hb _ (by simp) (by simp; omega) bN.cell
      (fun j hj => (hB0.cell (p := ⟨b, off + j, none⟩) hb).trans (hc j hj))) KeepB.trans (KeepB.put (by simp; omega) (by simp)) (Below.refl _ _) (fun _ => rfl)
    (fun pre W => (W.cell? ⟨w.heap.size, 0, none⟩ = some (.int .u64 (acc8 pre : Nat)) ∧ W.frozen? ⟨w.heap.size, 0, none⟩ = false) ∧ Below w.heap.size w W)
    (fun _ _ _ => False)
    (OwnFrom.and (Own.from (fun s A B row hs hg hr => ⟨cell_kept hs.1 hg hr, (frozen_kept hs.1 hg hr).trans hs.2⟩) _) (ownFrom_below (Nat.le_refl _) (by simp; omega)))
    (fun _ _ _ _ _ hs _ _ => hs)
    ⟨⟨(bS.alloc _).cell, (bS.alloc _).frozen⟩, hB0⟩
    (fun x => { tmps := #[.slice (some ⟨b, off, none⟩) len cap, undef, .int .u64 0, .pointer (some ⟨w.heap.size, 0, none⟩), undef, .int .u8 (x.2.toNat : Int), .slice (some ⟨b, off, none⟩) len cap, .func (.func 133) #[] #[.pointer (some ⟨w.heap.size + 1, 0, none⟩)], .int .i64 (x.1 : Int), .int .u8 (x.2.toNat : Int), undef, undef, undef, undef, undef, undef], defers := [] }) ?assign ?body ?done ?stop
  case assign =>
    intro l x W K hK
    gi_wp2
    exact hK
  case body =>
    rintro l pre x W ⟨⟨hcv, hf⟩, hB⟩ _
    have hlt := acc8_lt pre
    have hx : x.2.toNat < 256 := x.2.toNat_lt
    have HA : Hid (_) := acc8_arith pre x
    generalize acc8 pre = y at *
    clear hc
    gi_wp2
    exact ⟨(KeepsOthers.setCell _ _ _).from _, ⟨(Below.refl w.heap.size W).setCell (p := ⟨w.heap.size, 0, none⟩) (Nat.le_refl _) _, heap_setCell_other _ _ _ _ (by simp)⟩,
      ⟨by rw [← HA.out]; exact World.cell?_setCell_same' _ _ _ (by rw [hcv]; rfl), by rw [World.frozen?_setCell]; exact hf⟩, hB.setCell (p := ⟨w.heap.size, 0, none⟩) (Nat.le_refl _) _⟩
  case done =>
    rintro D ys W hD rfl ⟨⟨hcv, _⟩, hB⟩ hK
    gi_wp2
    refine ⟨by simp, .inl ⟨_, _, rfl, run_takeDeferred hK, ?_⟩⟩
    refine ⟨.int .u64 (acc8 (upto (downAt g len) len) : Nat), ?_, rfl, hB.trans (belowK_b (w := w) (Nat.le_refl _) W D _ _ (by simp at hD; omega) hK rfl rfl)⟩
    simp [results, Tryz.results73, go_sem]
  case stop =>
    rintro D c pre W _ _ h _
    exact h.elim
theorem number_any (l : List Nat) (hl : ∀ y ∈ l, y < 256) (h8 : l.length ≤ 8) (b off cap : Nat) (w : World) (hb : b < w.heap.size) (hc : ∀ j (h : j < l.length), w.cell? ⟨b, off + j, none⟩ = some (.int .u8 (l[j] : Nat))) :
    Calls Tryz.prog 73 #[.slice (some ⟨b, off, none⟩) l.length cap] w fun e w' => e = .returned (.int .u64 (nmL l : Nat)) ∧ Below w.heap.size w w' := by
  rw [← acc8_nm l hl h8]
  refine callsIn_wide.1 (number_wide b off l.length cap _ (by omega) w hb (fun j hj => ?_))
  rw [hc j hj]
  have := hl _ (List.getElem_mem hj)
  rw [List.getElem?_eq_getElem hj]
  show _ = some (Value.int .u8 (((UInt8.ofNat l[j]).toNat : Nat) : Int))
  rw [show (UInt8.ofNat l[j]).toNat = l[j] by simp; omega]
end Go.Proofs.YtaaiockiojejeaaGreatDoor
