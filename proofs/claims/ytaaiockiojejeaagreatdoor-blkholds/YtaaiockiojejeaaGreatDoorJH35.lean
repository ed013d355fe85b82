/-
  What blk's serve does.
-/
import Derived.Test.YtaaiockiojejeaaGreatDoorJH11
import Derived.Test.YtaaiockiojejeaaGreatDoorJH33
import Derived.Test.YtaaiockiojejeaaGreatDoorJH34
import Derived.Test.YtaaiockiojejeaaGreatDoorJH32
namespace Go.Proofs.YtaaiockiojejeaaGreatDoor
open Go.RowKit
set_option linter.unusedVariables false
set_option linter.unusedSimpArgs false

theorem ansV_l (p : Nat) (f : Nat → Nat) (s : Bk) (hd : Int) (l : List Sg) (b : List Nat) : (ansV p f s hd l b).2.l = s.l := by
  unfold ansV
  split
  · split <;> rfl
  · rfl
theorem telV_l (p : Nat) (f : Nat → Nat) (s : Bk) (hd : Int) (l : List Sg) (st : Nat) : (telV p f s hd l st).2.l = s.l := ansV_l _ _ _ _ _ _
set_option maxHeartbeats 2000000 in
theorem serve_4 (s : Bk) (ok : s.Ok) (l : List (Rq × Value)) (hsl : l.map (·.1) = s.l) (v : Value) (ch : Ch) (cv : Value) {Bl Bi : Nat} {w : World} {B b p c : Nat} {f : Nat → Nat} {O : Nat → Prop} (h : RamB w B b p f c O) (hA : AreasAt w) (hG : 2 < B) (hI : InAt w Bi O v l) (hBi : Bi ≤ w.heap.size) (hBB : B ≤ Bi) (hL : w.ownsRow Bl 103 3 cv ch.ps.length (segL ch.ps)) (hLn : ∀ g, cv.ownBlock = some g → ¬ O g) (hP : PartsOk p ch.ps) (hrd : ch.rd = roomV false 0 ch.ps) (hwt : ch.wr = roomV true 0 ch.ps) (hl8 : l.length ≤ 100) (hse : ch.se < 18446744073709551616) (hc9 : c ≤ 600000000) (h4 : ch.kd = 4) : Calls Tryz.prog 34 #[.agg (s.c v), .pointer (some ⟨b, 0, none⟩), .agg (ch.c cv)] w fun e w' => ∃ v' av, e = .returned (.tuple #[.agg ((srvV p f s ch).2.1.c v'), av]) ∧ ∃ l' O' al, l'.map (·.1) = (srvV p f s ch).2.1.l ∧ RamB w' B b p (srvV p f s ch).1 (c + 4) O' ∧ Went B (Or1 O v) (Or1 O' v') w w' ∧ InAt w' Bi O' v' l' ∧ (∀ g, v'.ownBlock = some g → v.ownBlock = some g ∨ w.heap.size ≤ g) ∧ AsksAt w' w.heap.size O' av al ∧ al.map (·.1) = (srvV p f s ch).2.2 := by
  have hvo := own_one hI.row
  have e1 : srvV p f s ch = ((telV p f s ch.hd ch.ps 0).1, (telV p f s ch.hd ch.ps 0).2, []) := by unfold srvV; rw [if_pos h4]
  rw [e1]
  have e2 : (telV p f s ch.hd ch.ps 0).2.l = s.l := telV_l _ _ _ _ _ _
  simp only
  rw [e2]
  clear e1 e2
  obtain ⟨cva, cvc, rfl, _, _⟩ := own_form hL
  have HT : Hid (∀ W, RamB W B b p f c O → AreasAt W → W.ownsRow Bl 103 3 (.slice cva ch.ps.length cvc) ch.ps.length (segL ch.ps) → Calls Tryz.prog 50 #[.agg (s.c v), .pointer (some ⟨b, 0, none⟩), .int .i64 ch.hd, (.slice cva ch.ps.length cvc), .int .u8 0] W fun e w' => e = .returned (.agg ((telV p f s ch.hd ch.ps 0).2.c v)) ∧ ∃ O', RamB w' B b p (telV p f s ch.hd ch.ps 0).1 (c + 4) O' ∧ Went B O O' W w') := hide (fun W hM hA hL => tell_any s ok.p v hvo ch.hd ch.ps (by have := hP.len; omega) hP.pos (fun g hg => (hP.ok g hg).1) 0 (by decide) hM hA hG hL (by omega))
  generalize telV p f s ch.hd ch.ps 0 = tv at *
  obtain ⟨f2, s2⟩ := tv
  have HI := hide hI
  have HSL := hide hsl
  have t0 : ((ch.kd : Int) == 4) = true := by simp; omega
  clear h4
  clear hI hsl hP hrd hwt
  have hB0 := h.base
  have hGw : 2 < w.heap.size := Nat.lt_of_lt_of_le hG hB0
  have hA0 := hA
  clear hA
  go_enter Tryz.func34, Tryz.ntmps34
  go_wp2_with (first | ((with_reducible refine bx_bk w.heap.size s v ?_ ?_ ?_); exact rfl; exact rfl; intro W hr hb hz) | ((with_reducible refine bx_ch (w.heap.size + 1) ch (.slice cva ch.ps.length cvc) ?_ ?_ ?_); exact hz.out; exact rfl; intro W hk hb' hz'; replace hr := hr.bl (hz.out ▸ hb'); replace hb := hb.trans (hb'.mono (by omega)); replace hz := hz') | ((with_reducible refine al_bk (w.heap.size + 2) ?_ ?_); exact hz.out; intro W hq hb' hz'; replace hr := hr.bl (hz.out ▸ hb'); replace hk := hk.bl (hz.out ▸ hb'); replace hb := hb.trans (hb'.mono (by omega)); replace hz := hz'; have hM := h.bl hb; have hW := Went.of (O := O) hb hB0; have hA := hA0.bl hb; have hF := h.far 3; have hS : w.heap.size + 3 ≤ W.heap.size := Nat.le_of_eq hz.out.symm; have hB : B ≤ W.heap.size := Nat.le_trans hB0 hb.size; replace hL := own_bel hL hb; have HIW := hide (HI.out.bl hb); clear hb hz hb' hz') | ((with_reducible refine ld_ckd (w.heap.size + 1) ch _ _ hk ?_ ?_ ?_); exact rfl; exact rfl) | ((with_reducible refine ld_chd (w.heap.size + 1) ch _ _ hk ?_ ?_ ?_); exact rfl; exact rfl) | ((with_reducible refine ld_cps (w.heap.size + 1) ch _ _ hk ?_ ?_ ?_); exact rfl; exact rfl) | ((with_reducible refine ld_bk w.heap.size s _ hr ?_ ?_ ?_); exact rfl; exact rfl) | ((with_reducible refine ld_ch (w.heap.size + 1) ch _ hk ?_ ?_ ?_); exact rfl; exact rfl) | (go_at_call 50; (with_reducible refine (HT.out _ hM hA hL).mono ?_); rintro e W2 ⟨rfl, O2, hM2, hW2⟩; have HW1 := hide (HIW.out.went hW2); replace hr := hW2.row hr (hF.at 0 (by omega)); replace hk := hW2.row hk (hF.at 1 (by omega)); replace hq := hW2.row hq (hF.at 2 (by omega)); replace hA := hA.wentR hG hW2; replace hF := hF.went hW2 hS; replace hS := Nat.le_trans hS hW2.size; replace hW := hW.trans hW2; replace hB := Nat.le_trans hB hW2.size; replace hM := hM2; clear hM2 hW2) | ((with_reducible refine st_bk (w.heap.size + 2) _ _ s2 v hvo hq ?_ ?_ ?_); exact rfl; exact rfl; intro W hnew ho; replace hr := hr.only ho (by omega); replace hk := hk.only ho (by omega); (have HI2 := hide (HW1.out.only ho (fun e => absurd (HI.out.row.lt _ e).2 (by omega)) (fun x hx e => absurd ((HI.out.own x hx).lt _ e).2 (by omega)))); replace hM := hM.only ho (hF.at 2 (by omega)); replace hA := hA.onlyR ho (by omega); replace hW := hW.only ho (by omega) (by omega); replace hS := (show w.heap.size + 3 ≤ W.heap.size by rw [ho.size]; exact hS); replace hB := (show B ≤ W.heap.size by rw [ho.size]; exact hB); replace hq := hnew; clear hnew ho))
  refine bodyPost_ret (results_cell_u Tryz.results34 _ _ (w.heap.size + 2) _ _ _ rfl hq Tryz.underlying53 rfl size_bk) rfl ?_
  exact ⟨v, _, rfl, l, _, [], HSL.out, hM, hW.or v, HI2.out, fun g e => .inl e, ⟨World.ownsRow_nil _ _ _ _, (fun x hx => by cases hx), (fun g e => by cases e)⟩, rfl⟩
set_option maxHeartbeats 2000000 in
theorem serve_2 (s : Bk) (ok : s.Ok) (l : List (Rq × Value)) (hsl : l.map (·.1) = s.l) (v : Value) (ch : Ch) (cv : Value) {Bl Bi : Nat} {w : World} {B b p c : Nat} {f : Nat → Nat} {O : Nat → Prop} (h : RamB w B b p f c O) (hA : AreasAt w) (hG : 2 < B) (hI : InAt w Bi O v l) (hBi : Bi ≤ w.heap.size) (hBB : B ≤ Bi) (hL : w.ownsRow Bl 103 3 cv ch.ps.length (segL ch.ps)) (hLn : ∀ g, cv.ownBlock = some g → ¬ O g) (hP : PartsOk p ch.ps) (hrd : ch.rd = roomV false 0 ch.ps) (hwt : ch.wr = roomV true 0 ch.ps) (hl8 : l.length ≤ 100) (hse : ch.se < 18446744073709551616) (hc9 : c ≤ 600000000) (h4 : ch.kd ≠ 4) (hm : ch.mov = false) : Calls Tryz.prog 34 #[.agg (s.c v), .pointer (some ⟨b, 0, none⟩), .agg (ch.c cv)] w fun e w' => ∃ v' av, e = .returned (.tuple #[.agg ((srvV p f s ch).2.1.c v'), av]) ∧ ∃ l' O' al, l'.map (·.1) = (srvV p f s ch).2.1.l ∧ RamB w' B b p (srvV p f s ch).1 (c + 4) O' ∧ Went B (Or1 O v) (Or1 O' v') w w' ∧ InAt w' Bi O' v' l' ∧ (∀ g, v'.ownBlock = some g → v.ownBlock = some g ∨ w.heap.size ≤ g) ∧ AsksAt w' w.heap.size O' av al ∧ al.map (·.1) = (srvV p f s ch).2.2 := by
  have hvo := own_one hI.row
  have e1 : srvV p f s ch = ((telV p f s ch.hd ch.ps 2).1, (telV p f s ch.hd ch.ps 2).2, []) := by unfold srvV; rw [if_neg h4, if_neg (by rw [hm]; decide)]
  rw [e1]
  have e2 : (telV p f s ch.hd ch.ps 2).2.l = s.l := telV_l _ _ _ _ _ _
  simp only
  rw [e2]
  clear e1 e2
  obtain ⟨cva, cvc, rfl, _, _⟩ := own_form hL
  have HT : Hid (∀ W, RamB W B b p f c O → AreasAt W → W.ownsRow Bl 103 3 (.slice cva ch.ps.length cvc) ch.ps.length (segL ch.ps) → Calls Tryz.prog 50 #[.agg (s.c v), .pointer (some ⟨b, 0, none⟩), .int .i64 ch.hd, (.slice cva ch.ps.length cvc), .int .u8 2] W fun e w' => e = .returned (.agg ((telV p f s ch.hd ch.ps 2).2.c v)) ∧ ∃ O', RamB w' B b p (telV p f s ch.hd ch.ps 2).1 (c + 4) O' ∧ Went B O O' W w') := hide (fun W hM hA hL => tell_any s ok.p v hvo ch.hd ch.ps (by have := hP.len; omega) hP.pos (fun g hg => (hP.ok g hg).1) 2 (by decide) hM hA hG hL (by omega))
  have HMv := hide (fun w => moves_any ch (.slice cva ch.ps.length cvc) w)
  rw [hm] at HMv
  generalize telV p f s ch.hd ch.ps 2 = tv at *
  obtain ⟨f2, s2⟩ := tv
  have HI := hide hI
  have HSL := hide hsl
  have t0 : ((ch.kd : Int) == 4) = false := by simp; omega
  clear h4 hm
  clear hI hsl hP hrd hwt
  have hB0 := h.base
  have hGw : 2 < w.heap.size := Nat.lt_of_lt_of_le hG hB0
  have hA0 := hA
  clear hA
  go_enter Tryz.func34, Tryz.ntmps34
  go_wp2_with (first | ((with_reducible refine bx_bk w.heap.size s v ?_ ?_ ?_); exact rfl; exact rfl; intro W hr hb hz) | ((with_reducible refine bx_ch (w.heap.size + 1) ch (.slice cva ch.ps.length cvc) ?_ ?_ ?_); exact hz.out; exact rfl; intro W hk hb' hz'; replace hr := hr.bl (hz.out ▸ hb'); replace hb := hb.trans (hb'.mono (by omega)); replace hz := hz') | ((with_reducible refine al_bk (w.heap.size + 2) ?_ ?_); exact hz.out; intro W hq hb' hz'; replace hr := hr.bl (hz.out ▸ hb'); replace hk := hk.bl (hz.out ▸ hb'); replace hb := hb.trans (hb'.mono (by omega)); replace hz := hz'; have hM := h.bl hb; have hW := Went.of (O := O) hb hB0; have hA := hA0.bl hb; have hF := h.far 3; have hS : w.heap.size + 3 ≤ W.heap.size := Nat.le_of_eq hz.out.symm; have hB : B ≤ W.heap.size := Nat.le_trans hB0 hb.size; replace hL := own_bel hL hb; have HIW := hide (HI.out.bl hb); clear hb hz hb' hz') | ((with_reducible refine ld_ckd (w.heap.size + 1) ch _ _ hk ?_ ?_ ?_); exact rfl; exact rfl) | ((with_reducible refine ld_chd (w.heap.size + 1) ch _ _ hk ?_ ?_ ?_); exact rfl; exact rfl) | ((with_reducible refine ld_cps (w.heap.size + 1) ch _ _ hk ?_ ?_ ?_); exact rfl; exact rfl) | ((with_reducible refine ld_bk w.heap.size s _ hr ?_ ?_ ?_); exact rfl; exact rfl) | ((with_reducible refine ld_ch (w.heap.size + 1) ch _ hk ?_ ?_ ?_); exact rfl; exact rfl) | (go_at_call 74; (with_reducible refine (HMv.out _).mono ?_); rintro e W ⟨rfl, hbc⟩; replace hM := hM.bl hbc; replace hW := hW.bl hbc hB; replace hA := hA.bl hbc; replace hB := Nat.le_trans hB hbc.size; replace hS := Nat.le_trans hS hbc.size; replace hr := hr.bl hbc; replace hk := hk.bl hbc; replace hq := hq.bl hbc; replace hL := own_bel hL hbc; replace HIW := hide (HIW.out.bl hbc); clear hbc) | (go_at_call 50; (with_reducible refine (HT.out _ hM hA hL).mono ?_); rintro e W2 ⟨rfl, O2, hM2, hW2⟩; have HW1 := hide (HIW.out.went hW2); replace hr := hW2.row hr (hF.at 0 (by omega)); replace hk := hW2.row hk (hF.at 1 (by omega)); replace hq := hW2.row hq (hF.at 2 (by omega)); replace hA := hA.wentR hG hW2; replace hF := hF.went hW2 hS; replace hS := Nat.le_trans hS hW2.size; replace hW := hW.trans hW2; replace hB := Nat.le_trans hB hW2.size; replace hM := hM2; clear hM2 hW2) | ((with_reducible refine st_bk (w.heap.size + 2) _ _ s2 v hvo hq ?_ ?_ ?_); exact rfl; exact rfl; intro W hnew ho; replace hr := hr.only ho (by omega); replace hk := hk.only ho (by omega); (have HI2 := hide (HW1.out.only ho (fun e => absurd (HI.out.row.lt _ e).2 (by omega)) (fun x hx e => absurd ((HI.out.own x hx).lt _ e).2 (by omega)))); replace hM := hM.only ho (hF.at 2 (by omega)); replace hA := hA.onlyR ho (by omega); replace hW := hW.only ho (by omega) (by omega); replace hS := (show w.heap.size + 3 ≤ W.heap.size by rw [ho.size]; exact hS); replace hB := (show B ≤ W.heap.size by rw [ho.size]; exact hB); replace hq := hnew; clear hnew ho))
  refine bodyPost_ret (results_cell_u Tryz.results34 _ _ (w.heap.size + 2) _ _ _ rfl hq Tryz.underlying53 rfl size_bk) rfl ?_
  exact ⟨v, _, rfl, l, _, [], HSL.out, hM, hW.or v, HI2.out, fun g e => .inl e, ⟨World.ownsRow_nil _ _ _ _, (fun x hx => by cases hx), (fun g e => by cases e)⟩, rfl⟩
set_option maxHeartbeats 2000000 in
theorem serve_1 (s : Bk) (ok : s.Ok) (l : List (Rq × Value)) (hsl : l.map (·.1) = s.l) (v : Value) (ch : Ch) (cv : Value) {Bl Bi : Nat} {w : World} {B b p c : Nat} {f : Nat → Nat} {O : Nat → Prop} (h : RamB w B b p f c O) (hA : AreasAt w) (hG : 2 < B) (hI : InAt w Bi O v l) (hBi : Bi ≤ w.heap.size) (hBB : B ≤ Bi) (hL : w.ownsRow Bl 103 3 cv ch.ps.length (segL ch.ps)) (hLn : ∀ g, cv.ownBlock = some g → ¬ O g) (hP : PartsOk p ch.ps) (hrd : ch.rd = roomV false 0 ch.ps) (hwt : ch.wr = roomV true 0 ch.ps) (hl8 : l.length ≤ 100) (hse : ch.se < 18446744073709551616) (hc9 : c ≤ 600000000) (hm : ch.mov = true) (hd0 : 0 ≤ ch.dat) (hwi : isWit s.sc ch.se ch.dat.toNat = false) : Calls Tryz.prog 34 #[.agg (s.c v), .pointer (some ⟨b, 0, none⟩), .agg (ch.c cv)] w fun e w' => ∃ v' av, e = .returned (.tuple #[.agg ((srvV p f s ch).2.1.c v'), av]) ∧ ∃ l' O' al, l'.map (·.1) = (srvV p f s ch).2.1.l ∧ RamB w' B b p (srvV p f s ch).1 (c + 4) O' ∧ Went B (Or1 O v) (Or1 O' v') w w' ∧ InAt w' Bi O' v' l' ∧ (∀ g, v'.ownBlock = some g → v.ownBlock = some g ∨ w.heap.size ≤ g) ∧ AsksAt w' w.heap.size O' av al ∧ al.map (·.1) = (srvV p f s ch).2.2 := by
  have hvo := own_one hI.row
  have h4 : ch.kd ≠ 4 := by intro e; rw [Ch.mov, e] at hm; simp at hm
  have e1 : srvV p f s ch = ((telV p f s ch.hd ch.ps 1).1, (telV p f s ch.hd ch.ps 1).2, []) := by unfold srvV; rw [if_neg h4, if_pos hm, if_neg (by rw [hwi]; decide)]
  rw [e1]
  have e2 : (telV p f s ch.hd ch.ps 1).2.l = s.l := telV_l _ _ _ _ _ _
  simp only
  rw [e2]
  clear e1 e2
  obtain ⟨cva, cvc, rfl, _, _⟩ := own_form hL
  have HT : Hid (∀ W, RamB W B b p f c O → AreasAt W → W.ownsRow Bl 103 3 (.slice cva ch.ps.length cvc) ch.ps.length (segL ch.ps) → Calls Tryz.prog 50 #[.agg (s.c v), .pointer (some ⟨b, 0, none⟩), .int .i64 ch.hd, (.slice cva ch.ps.length cvc), .int .u8 1] W fun e w' => e = .returned (.agg ((telV p f s ch.hd ch.ps 1).2.c v)) ∧ ∃ O', RamB w' B b p (telV p f s ch.hd ch.ps 1).1 (c + 4) O' ∧ Went B O O' W w') := hide (fun W hM hA hL => tell_any s ok.p v hvo ch.hd ch.ps (by have := hP.len; omega) hP.pos (fun g hg => (hP.ok g hg).1) 1 (by decide) hM hA hG hL (by omega))
  obtain ⟨rr0, rr1⟩ := roomV_in false ch.ps 0 (by decide) (by decide)
  obtain ⟨rw0, rw1⟩ := roomV_in true ch.ps 0 (by decide) (by decide)
  have hdm : ch.dat ≤ 9223372036854775807 := by unfold Ch.dat; rw [hrd, hwt]; split <;> omega
  have HMv := hide (fun w => moves_any ch (.slice cva ch.ps.length cvc) w)
  rw [hm] at HMv
  have HD := hide (fun w => databytes_any ch (.slice cva ch.ps.length cvc) (by rw [hrd]; exact rr0) (by rw [hrd]; exact rr1) (by rw [hwt]; exact rw0) (by rw [hwt]; exact rw1) w)
  obtain ⟨dn, hdn⟩ : ∃ n : Nat, ch.dat = (n : Int) := ⟨ch.dat.toNat, by omega⟩
  have hdl : dn < 9223372036854775808 := by have := hdm; omega
  have HWi : Hid (∀ w, Calls Tryz.prog 76 #[.int .u32 (s.sc : Nat), .int .u64 (ch.se : Nat), .int .i64 (dn : Nat)] w fun e w' => e = .returned (.bool (isWit s.sc ch.se dn)) ∧ w' = w) := hide (fun w => iswithin_any s.sc ch.se dn ok.sc hse hdl w)
  rw [hdn] at HD hwi
  rw [Int.toNat_natCast] at hwi
  rw [hwi] at HWi
  generalize telV p f s ch.hd ch.ps 1 = tv at *
  obtain ⟨f2, s2⟩ := tv
  have HI := hide hI
  have HSL := hide hsl
  have t0 : ((ch.kd : Int) == 4) = false := by simp; omega
  clear hI hsl hP hrd hwt h4 hm hd0 hwi rr0 rr1 rw0 rw1 hdn hdm
  have hB0 := h.base
  have hGw : 2 < w.heap.size := Nat.lt_of_lt_of_le hG hB0
  have hA0 := hA
  clear hA
  go_enter Tryz.func34, Tryz.ntmps34
  go_upto_region 5 with (first | ((with_reducible refine bx_bk w.heap.size s v ?_ ?_ ?_); exact rfl; exact rfl; intro W hr hb hz) | ((with_reducible refine bx_ch (w.heap.size + 1) ch (.slice cva ch.ps.length cvc) ?_ ?_ ?_); exact hz.out; exact rfl; intro W hk hb' hz'; replace hr := hr.bl (hz.out ▸ hb'); replace hb := hb.trans (hb'.mono (by omega)); replace hz := hz') | ((with_reducible refine al_bk (w.heap.size + 2) ?_ ?_); exact hz.out; intro W hq hb' hz'; replace hr := hr.bl (hz.out ▸ hb'); replace hk := hk.bl (hz.out ▸ hb'); replace hb := hb.trans (hb'.mono (by omega)); replace hz := hz'; have hM := h.bl hb; have hW := Went.of (O := O) hb hB0; have hA := hA0.bl hb; have hF := h.far 3; have hS : w.heap.size + 3 ≤ W.heap.size := Nat.le_of_eq hz.out.symm; have hB : B ≤ W.heap.size := Nat.le_trans hB0 hb.size; replace hL := own_bel hL hb; have HIW := hide (HI.out.bl hb); clear hb hz hb' hz') | ((with_reducible refine ld_ckd (w.heap.size + 1) ch _ _ hk ?_ ?_ ?_); exact rfl; exact rfl) | ((with_reducible refine ld_chd (w.heap.size + 1) ch _ _ hk ?_ ?_ ?_); exact rfl; exact rfl) | ((with_reducible refine ld_cps (w.heap.size + 1) ch _ _ hk ?_ ?_ ?_); exact rfl; exact rfl) | ((with_reducible refine ld_bk w.heap.size s _ hr ?_ ?_ ?_); exact rfl; exact rfl) | ((with_reducible refine ld_ch (w.heap.size + 1) ch _ hk ?_ ?_ ?_); exact rfl; exact rfl) | (go_at_call 74; (with_reducible refine (HMv.out _).mono ?_); rintro e W ⟨rfl, hbc⟩; replace hM := hM.bl hbc; replace hW := hW.bl hbc hB; replace hA := hA.bl hbc; replace hB := Nat.le_trans hB hbc.size; replace hS := Nat.le_trans hS hbc.size; replace hr := hr.bl hbc; replace hk := hk.bl hbc; replace hq := hq.bl hbc; replace hL := own_bel hL hbc; replace HIW := hide (HIW.out.bl hbc); clear hbc))
  refine wp_region_held_drew (S := (fun V => RowAt V w.heap.size (s.c v) 53 ∧ RowAt V (w.heap.size + 1) (ch.c (.slice cva ch.ps.length cvc)) 110)) (by kernel_rfl) ?_ (fun hHeld => ?_)
  · exact ⟨hr.dr, hk.dr⟩
  replace hM := hM.dr
  replace hW := hW.dr
  replace hA := hA.drR
  replace hS : w.heap.size + 3 ≤ (World.drew _).heap.size := hS
  replace hB : B ≤ (World.drew _).heap.size := hB
  replace hq := hq.dr
  replace hL := own_dr hL
  replace HIW := hide (HIW.out.bl ((Below.refl _ _).drew))
  generalize World.drew _ = V at hHeld hM hW hA hS hB hq hL HIW ⊢
  clear hr hk
  refine tkO 0 (.pointer (some ⟨w.heap.size, 21, none⟩)) (by simp only [gT, gZ]; rfl) (puO (by (intro w hSw; (try dsimp only at hSw); go_simp))) ?_
  simp only [Act.put, pA, pZ, pS]
  refine tkO 1 (.int .u32 (s.sc : Nat)) (by simp only [gT, gZ, gS]; rfl) (y_bsc w.heap.size s _ _ (fun V hV => hV.1) rfl) ?_
  simp only [Act.put, pA, pZ, pS]
  refine tkO 2 (.pointer (some ⟨w.heap.size + 1, 2, none⟩)) (by simp only [gT, gZ, gS]; rfl) (puO (by (intro w hSw; (try dsimp only at hSw); go_simp))) ?_
  simp only [Act.put, pA, pZ, pS]
  refine tkO 3 (.int .u64 (ch.se : Nat)) (by simp only [gT, gZ, gS]; rfl) (y_cse (w.heap.size + 1) ch _ _ (fun V hV => hV.2) rfl) ?_
  simp only [Act.put, pA, pZ, pS]
  refine tkO 4 (.agg (ch.c (.slice cva ch.ps.length cvc))) (by simp only [gT, gZ, gS]; rfl) (y_ch (w.heap.size + 1) ch _ (fun V hV => hV.2) rfl rfl) ?_
  simp only [Act.put, pA, pZ, pS]
  refine skO 5 (by simp only [gT, gZ, gS]; rfl) (fun K hK => ?_)
  rw [if_pos (by rfl)]
  go_simp
  (with_reducible refine (HD.out _).mono ?_)
  rintro e V2 ⟨rfl, hbc⟩
  have hH2 := hide (And.intro (hHeld.1.bl hbc) (hHeld.2.bl hbc))
  replace hM := hM.bl hbc
  replace hW := hW.bl hbc hB
  replace hA := hA.bl hbc
  replace hB := Nat.le_trans hB hbc.size
  replace hS := Nat.le_trans hS hbc.size
  replace hq := hq.bl hbc
  replace hL := own_bel hL hbc
  replace HIW := hide (HIW.out.bl hbc)
  clear hHeld hbc
  go_simp
  refine hK.out _ _ ?_ (fun hHeld => ?_)
  · exact hH2.out
  clear hK K
  clear hH2
  refine skO 6 (by simp only [gT, gZ, gS]; rfl) (fun K hK => ?_)
  rw [if_pos (by rfl)]
  go_simp
  (with_reducible refine (HWi.out _).mono ?_)
  rintro e V3 ⟨rfl, rfl⟩
  have hH2 := hide hHeld
  clear hHeld
  go_simp
  refine hK.out _ _ ?_ (fun hHeld => ?_)
  · exact hH2.out
  clear hK K
  clear hH2
  refine tkO 7 (.bool true) (by simp only [gT, gZ, gS]; rfl) (puO (by (intro w hSw; (try dsimp only at hSw); go_simp))) ?_
  simp only [Act.put, pA, pZ, pS]
  refine tkO 8 (.bool true) (by simp only [gT, gZ, gS]; rfl) (puO (by (intro w hSw; (try dsimp only at hSw); go_simp))) ?_
  simp only [Act.put, pA, pZ, pS]
  refine wpAnyH_done (by kernel_rfl) ?_ _
  obtain ⟨hr, hk⟩ := hHeld
  go_wp2_with (first | ((with_reducible refine ld_ckd (w.heap.size + 1) ch _ _ hk ?_ ?_ ?_); exact rfl; exact rfl) | ((with_reducible refine ld_chd (w.heap.size + 1) ch _ _ hk ?_ ?_ ?_); exact rfl; exact rfl) | ((with_reducible refine ld_cps (w.heap.size + 1) ch _ _ hk ?_ ?_ ?_); exact rfl; exact rfl) | ((with_reducible refine ld_bk w.heap.size s _ hr ?_ ?_ ?_); exact rfl; exact rfl) | ((with_reducible refine ld_ch (w.heap.size + 1) ch _ hk ?_ ?_ ?_); exact rfl; exact rfl) | (go_at_call 50; (with_reducible refine (HT.out _ hM hA hL).mono ?_); rintro e W2 ⟨rfl, O2, hM2, hW2⟩; have HW1 := hide (HIW.out.went hW2); replace hr := hW2.row hr (hF.at 0 (by omega)); replace hk := hW2.row hk (hF.at 1 (by omega)); replace hq := hW2.row hq (hF.at 2 (by omega)); replace hA := hA.wentR hG hW2; replace hF := hF.went hW2 hS; replace hS := Nat.le_trans hS hW2.size; replace hW := hW.trans hW2; replace hB := Nat.le_trans hB hW2.size; replace hM := hM2; clear hM2 hW2) | ((with_reducible refine st_bk (w.heap.size + 2) _ _ s2 v hvo hq ?_ ?_ ?_); exact rfl; exact rfl; intro W hnew ho; replace hr := hr.only ho (by omega); replace hk := hk.only ho (by omega); (have HI2 := hide (HW1.out.only ho (fun e => absurd (HI.out.row.lt _ e).2 (by omega)) (fun x hx e => absurd ((HI.out.own x hx).lt _ e).2 (by omega)))); replace hM := hM.only ho (hF.at 2 (by omega)); replace hA := hA.onlyR ho (by omega); replace hW := hW.only ho (by omega) (by omega); replace hS := (show w.heap.size + 3 ≤ W.heap.size by rw [ho.size]; exact hS); replace hB := (show B ≤ W.heap.size by rw [ho.size]; exact hB); replace hq := hnew; clear hnew ho))
  refine bodyPost_ret (results_cell_u Tryz.results34 _ _ (w.heap.size + 2) _ _ _ rfl hq Tryz.underlying53 rfl size_bk) rfl ?_
  exact ⟨v, _, rfl, l, _, [], HSL.out, hM, hW.or v, HI2.out, fun g e => .inl e, ⟨World.ownsRow_nil _ _ _ _, (fun x hx => by cases hx), (fun g e => by cases e)⟩, rfl⟩
theorem AsksAt.lowerB {w : World} {B B' : Nat} {O : Nat → Prop} {av : Value} {l : List (Ak × Value)} (h : AsksAt w B O av l) (hB : B' ≤ B) : AsksAt w B' O av l :=
  ⟨own_lower2 h.row hB, fun x hx => by
    rcases (h.dat x hx).ex with q | ⟨g, cap, all, e1, e2, e3⟩
    · exact ⟨.inl q⟩
    · exact ⟨.inr ⟨g, cap, all, e1, own_lower2 e2 hB, e3⟩⟩, h.far⟩
set_option maxHeartbeats 2000000 in
theorem serve_0 (s : Bk) (ok : s.Ok) (l : List (Rq × Value)) (hsl : l.map (·.1) = s.l) (v : Value) (ch : Ch) (cv : Value) {Bl Bi : Nat} {w : World} {B b p c : Nat} {f : Nat → Nat} {O : Nat → Prop} (h : RamB w B b p f c O) (hA : AreasAt w) (hG : 2 < B) (hI : InAt w Bi O v l) (hBi : Bi ≤ w.heap.size) (hBB : B ≤ Bi) (hL : w.ownsRow Bl 103 3 cv ch.ps.length (segL ch.ps)) (hLn : ∀ g, cv.ownBlock = some g → ¬ O g) (hP : PartsOk p ch.ps) (hrd : ch.rd = roomV false 0 ch.ps) (hwt : ch.wr = roomV true 0 ch.ps) (hl8 : l.length ≤ 100) (hse : ch.se < 18446744073709551616) (hc9 : c ≤ 600000000) (hm : ch.mov = true) (hd0 : 0 ≤ ch.dat) (hwi : isWit s.sc ch.se ch.dat.toNat = true) (h16 : ch.kd = 1 → 16 < (gathF f (partsV false maxI ch.ps)).length) : Calls Tryz.prog 34 #[.agg (s.c v), .pointer (some ⟨b, 0, none⟩), .agg (ch.c cv)] w fun e w' => ∃ v' av, e = .returned (.tuple #[.agg ((srvV p f s ch).2.1.c v'), av]) ∧ ∃ l' O' al, l'.map (·.1) = (srvV p f s ch).2.1.l ∧ RamB w' B b p (srvV p f s ch).1 (c + 4) O' ∧ Went B (Or1 O v) (Or1 O' v') w w' ∧ InAt w' Bi O' v' l' ∧ (∀ g, v'.ownBlock = some g → v.ownBlock = some g ∨ w.heap.size ≤ g) ∧ AsksAt w' w.heap.size O' av al ∧ al.map (·.1) = (srvV p f s ch).2.2 := by
  have hvo := own_one hI.row
  have h4 : ch.kd ≠ 4 := by intro e; rw [Ch.mov, e] at hm; simp at hm
  have e1 : srvV p f s ch = (f, (entV f s ch).1, [(entV f s ch).2]) := by unfold srvV; rw [if_neg h4, if_pos hm, if_pos hwi]
  rw [e1]
  simp only
  clear e1
  obtain ⟨cva, cvc, rfl, _, _⟩ := own_form hL
  have HE : Hid (∀ W, RamB W B b p f c O → AreasAt W → InAt W Bi O v l → Bi ≤ W.heap.size → W.ownsRow Bl 103 3 (.slice cva ch.ps.length cvc) ch.ps.length (segL ch.ps) → Calls Tryz.prog 78 #[.agg (s.c v), .pointer (some ⟨b, 0, none⟩), .agg (ch.c (.slice cva ch.ps.length cvc))] W fun e w' => ∃ v' av, e = .returned (.tuple #[.agg ((entV f s ch).1.c v'), av]) ∧ ∃ l' O' dv, l'.map (·.1) = (entV f s ch).1.l ∧ RamB w' B b p f c O' ∧ Went B (Or1 O v) (Or1 O' v') W w' ∧ InAt w' Bi O' v' l' ∧ (∀ g, v'.ownBlock = some g → v.ownBlock = some g ∨ W.heap.size ≤ g) ∧ AsksAt w' W.heap.size O' av [((entV f s ch).2, dv)]) := hide (fun W hM hA hI hBi hL => by
    by_cases hk : ch.kd = 1
    · exact enter_w s ok l hsl v ch _ hM hA hG hI hBi hBB hL hLn hP hrd hwt hl8 hk (h16 hk)
    · exact enter_r s ok l hsl v ch _ hM hA hG hI hBi hBB hL hLn hP hrd hwt hl8 hk)
  obtain ⟨rr0, rr1⟩ := roomV_in false ch.ps 0 (by decide) (by decide)
  obtain ⟨rw0, rw1⟩ := roomV_in true ch.ps 0 (by decide) (by decide)
  have hdm : ch.dat ≤ 9223372036854775807 := by unfold Ch.dat; rw [hrd, hwt]; split <;> omega
  have HMv := hide (fun w => moves_any ch (.slice cva ch.ps.length cvc) w)
  rw [hm] at HMv
  have HD := hide (fun w => databytes_any ch (.slice cva ch.ps.length cvc) (by rw [hrd]; exact rr0) (by rw [hrd]; exact rr1) (by rw [hwt]; exact rw0) (by rw [hwt]; exact rw1) w)
  obtain ⟨dn, hdn⟩ : ∃ n : Nat, ch.dat = (n : Int) := ⟨ch.dat.toNat, by omega⟩
  have hdl : dn < 9223372036854775808 := by have := hdm; omega
  have HWi : Hid (∀ w, Calls Tryz.prog 76 #[.int .u32 (s.sc : Nat), .int .u64 (ch.se : Nat), .int .i64 (dn : Nat)] w fun e w' => e = .returned (.bool (isWit s.sc ch.se dn)) ∧ w' = w) := hide (fun w => iswithin_any s.sc ch.se dn ok.sc hse hdl w)
  rw [hdn] at HD hwi
  rw [Int.toNat_natCast] at hwi
  rw [hwi] at HWi
  generalize (entV f s ch).1 = s2 at *
  generalize (entV f s ch).2 = k2 at *
  have HI := hide hI
  have t0 : ((ch.kd : Int) == 4) = false := by simp; omega
  clear hI hsl hP hrd hwt h4 hm hd0 hwi rr0 rr1 rw0 rw1 hdn hdm h16
  have hB0 := h.base
  have hGw : 2 < w.heap.size := Nat.lt_of_lt_of_le hG hB0
  have hA0 := hA
  clear hA
  go_enter Tryz.func34, Tryz.ntmps34
  go_upto_region 5 with (first | ((with_reducible refine bx_bk w.heap.size s v ?_ ?_ ?_); exact rfl; exact rfl; intro W hr hb hz) | ((with_reducible refine bx_ch (w.heap.size + 1) ch (.slice cva ch.ps.length cvc) ?_ ?_ ?_); exact hz.out; exact rfl; intro W hk hb' hz'; replace hr := hr.bl (hz.out ▸ hb'); replace hb := hb.trans (hb'.mono (by omega)); replace hz := hz') | ((with_reducible refine al_bk (w.heap.size + 2) ?_ ?_); exact hz.out; intro W hq hb' hz'; replace hr := hr.bl (hz.out ▸ hb'); replace hk := hk.bl (hz.out ▸ hb'); replace hb := hb.trans (hb'.mono (by omega)); replace hz := hz'; have hM := h.bl hb; have hW := Went.of (O := O) hb hB0; have hA := hA0.bl hb; have hF := h.far 3; have hS : w.heap.size + 3 ≤ W.heap.size := Nat.le_of_eq hz.out.symm; have hB : B ≤ W.heap.size := Nat.le_trans hB0 hb.size; replace hL := own_bel hL hb; have HIW := hide (HI.out.bl hb); clear hb hz hb' hz') | ((with_reducible refine ld_ckd (w.heap.size + 1) ch _ _ hk ?_ ?_ ?_); exact rfl; exact rfl) | ((with_reducible refine ld_bk w.heap.size s _ hr ?_ ?_ ?_); exact rfl; exact rfl) | ((with_reducible refine ld_ch (w.heap.size + 1) ch _ hk ?_ ?_ ?_); exact rfl; exact rfl) | (go_at_call 74; (with_reducible refine (HMv.out _).mono ?_); rintro e W ⟨rfl, hbc⟩; replace hM := hM.bl hbc; replace hW := hW.bl hbc hB; replace hA := hA.bl hbc; replace hB := Nat.le_trans hB hbc.size; replace hS := Nat.le_trans hS hbc.size; replace hr := hr.bl hbc; replace hk := hk.bl hbc; replace hq := hq.bl hbc; replace hL := own_bel hL hbc; replace HIW := hide (HIW.out.bl hbc); clear hbc))
  refine wp_region_held_drew (S := (fun V => RowAt V w.heap.size (s.c v) 53 ∧ RowAt V (w.heap.size + 1) (ch.c (.slice cva ch.ps.length cvc)) 110)) (by kernel_rfl) ?_ (fun hHeld => ?_)
  · exact ⟨hr.dr, hk.dr⟩
  replace hM := hM.dr
  replace hW := hW.dr
  replace hA := hA.drR
  replace hS : w.heap.size + 3 ≤ (World.drew _).heap.size := hS
  replace hB : B ≤ (World.drew _).heap.size := hB
  replace hq := hq.dr
  replace hL := own_dr hL
  replace HIW := hide (HIW.out.bl ((Below.refl _ _).drew))
  generalize World.drew _ = V at hHeld hM hW hA hS hB hq hL HIW ⊢
  clear hr hk
  refine tkO 0 (.pointer (some ⟨w.heap.size, 21, none⟩)) (by simp only [gT, gZ]; rfl) (puO (by (intro w hSw; (try dsimp only at hSw); go_simp))) ?_
  simp only [Act.put, pA, pZ, pS]
  refine tkO 1 (.int .u32 (s.sc : Nat)) (by simp only [gT, gZ, gS]; rfl) (y_bsc w.heap.size s _ _ (fun V hV => hV.1) rfl) ?_
  simp only [Act.put, pA, pZ, pS]
  refine tkO 2 (.pointer (some ⟨w.heap.size + 1, 2, none⟩)) (by simp only [gT, gZ, gS]; rfl) (puO (by (intro w hSw; (try dsimp only at hSw); go_simp))) ?_
  simp only [Act.put, pA, pZ, pS]
  refine tkO 3 (.int .u64 (ch.se : Nat)) (by simp only [gT, gZ, gS]; rfl) (y_cse (w.heap.size + 1) ch _ _ (fun V hV => hV.2) rfl) ?_
  simp only [Act.put, pA, pZ, pS]
  refine tkO 4 (.agg (ch.c (.slice cva ch.ps.length cvc))) (by simp only [gT, gZ, gS]; rfl) (y_ch (w.heap.size + 1) ch _ (fun V hV => hV.2) rfl rfl) ?_
  simp only [Act.put, pA, pZ, pS]
  refine skO 5 (by simp only [gT, gZ, gS]; rfl) (fun K hK => ?_)
  rw [if_pos (by rfl)]
  go_simp
  (with_reducible refine (HD.out _).mono ?_)
  rintro e V2 ⟨rfl, hbc⟩
  have hH2 := hide (And.intro (hHeld.1.bl hbc) (hHeld.2.bl hbc))
  replace hM := hM.bl hbc
  replace hW := hW.bl hbc hB
  replace hA := hA.bl hbc
  replace hB := Nat.le_trans hB hbc.size
  replace hS := Nat.le_trans hS hbc.size
  replace hq := hq.bl hbc
  replace hL := own_bel hL hbc
  replace HIW := hide (HIW.out.bl hbc)
  clear hHeld hbc
  go_simp
  refine hK.out _ _ ?_ (fun hHeld => ?_)
  · exact hH2.out
  clear hK K
  clear hH2
  refine skO 6 (by simp only [gT, gZ, gS]; rfl) (fun K hK => ?_)
  rw [if_pos (by rfl)]
  go_simp
  (with_reducible refine (HWi.out _).mono ?_)
  rintro e V3 ⟨rfl, rfl⟩
  have hH2 := hide hHeld
  clear hHeld
  go_simp
  refine hK.out _ _ ?_ (fun hHeld => ?_)
  · exact hH2.out
  clear hK K
  clear hH2
  refine tkO 7 (.bool false) (by simp only [gT, gZ, gS]; rfl) (puO (by (intro w hSw; (try dsimp only at hSw); go_simp))) ?_
  simp only [Act.put, pA, pZ, pS]
  refine tkO 8 (.bool false) (by simp only [gT, gZ, gS]; rfl) (puO (by (intro w hSw; (try dsimp only at hSw); go_simp))) ?_
  simp only [Act.put, pA, pZ, pS]
  refine wpAnyH_done (by kernel_rfl) ?_ _
  obtain ⟨hr, hk⟩ := hHeld
  go_wp2_with (first | ((with_reducible refine ld_ckd (w.heap.size + 1) ch _ _ hk ?_ ?_ ?_); exact rfl; exact rfl) | ((with_reducible refine ld_bk w.heap.size s _ hr ?_ ?_ ?_); exact rfl; exact rfl) | ((with_reducible refine ld_ch (w.heap.size + 1) ch _ hk ?_ ?_ ?_); exact rfl; exact rfl) | (go_at_call 78; (with_reducible refine (HE.out _ hM hA HIW.out (Nat.le_trans hBi (by omega)) hL).mono ?_); rintro e W2 ⟨v2, av2, rfl, l2, O2, dv, q1, hM2, hW2, hI2, hv2, hk2⟩; (have hvq : ∀ g, v.ownBlock = some g → g < w.heap.size := fun g e => (HI.out.row.lt g e).2); (have hno : ∀ j, j < 3 → ¬ Or1 O v (w.heap.size + j) := fun j hj e => e.elim (hF.at j hj) (fun k => absurd (hvq _ k) (by omega))); replace hq := hW2.row hq (hno 2 (by omega)); (have hno2 := hW2.no (show w.heap.size + 2 < _ by omega) (hno 2 (by omega))); (have hWW := (hW.or v).trans hW2); (have hS0 := hS); (replace hS := Nat.le_trans hS hW2.size); (have hv2o := own_one hI2.row); clear hW2 hM hW) | ((with_reducible refine st_bk (w.heap.size + 2) _ _ s2 v2 hv2o hq ?_ ?_ ?_); exact rfl; exact rfl; intro W5 hnew ho; (replace hM2 := hM2.only ho (fun e => hno2 (.inl e))); (replace hWW := hWW.only ho (by omega) (by omega)); (replace hI2 := hI2.only ho (fun e => hno2 (.inr e)) (fun x hx e => in_seg_ne hI2 hx e hq)); (replace hk2 := hk2.only ho hq (by decide) (by decide)); replace hq := hnew))
  refine bodyPost_ret (results_cell_u Tryz.results34 _ _ (w.heap.size + 2) _ _ _ rfl hq Tryz.underlying53 rfl size_bk) rfl ?_
  exact ⟨v2, av2, rfl, l2, O2, [(k2, dv)], q1, hM2.more (by omega), hWW, hI2, fun g e => (hv2 g e).imp id (fun h => by omega), AsksAt.lowerB hk2 (by omega), rfl⟩
end Go.Proofs.YtaaiockiojejeaaGreatDoor
