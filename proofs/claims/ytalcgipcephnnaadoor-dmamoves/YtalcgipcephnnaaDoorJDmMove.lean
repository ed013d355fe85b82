/-
  What dma's move answers.
-/
import Derived.Test.YtalcgipcephnnaaDoorJDmOrd
namespace Go.Proofs.YtalcgipcephnnaaDoor
open Go.RowKit
set_option linter.unusedVariables false
set_option linter.unusedSimpArgs false

theorem s_cellO {P : Program} {dst : Option Tmp} {t ty : TypeId} {pos : String} {after : Array Edge} {a : Act} {w : World} {x y : Operand} {K : Act → World → Prop} {Q : Exit → Act → World → Prop} (b j : Nat) (hx : a.eval x = .pointer (some ⟨b, j, none⟩)) (v : Value) (hy : a.eval y = v) (old cs : Array Value) (t' : TypeId) (hr : RowAt w b old t') (hi : (P.info? t).map (·.size) = some 1) (hs : j < old.size) (h1 : v.oneCell' = true) (hp : old.setIfInBounds j v = cs)
    (k : ∀ W, RowAt W b cs t' → Only b w W → K (a.put dst undef) W) : Oper.wp P ⟨dst, .store t x y, ty, pos, after, none⟩ a w K Q := by
  subst hp
  have hth := hr.thereAt j 1 (by omega)
  have := run_storeCells_cells (P := P) b j [v] 0 w (fun i hi => by simpa using (hth i (by simpa using hi)).1) (fun i hi => by simpa using (hth i (by simpa using hi)).2) (fun u hu => by simp at hu; subst hu; exact h1)
  have hc : v.cells = #[v] := by cases v <;> first | rfl | cases h1
  have hrun : (storeVar t ⟨b, j, none⟩ v).run P w = .ok () (w.setCells b j [v]) := by
    cases hq : P.info? t with
    | none => simp [hq] at hi
    | some i =>
      have hs : i.size = 1 := by simp [hq] at hi; omega
      simp only [Nat.add_zero] at this
      simp [storeVar, sizeOf, typeInfo, hq, hc, hs, this]
  unfold Oper.wp execOp
  simp only [hx, hy, Instr.storeAt, Instr.sureAddr, Sem.run_bind, Sem.run_pure, Result.andThen_ok, hrun]
  exact k _ (hr.put j v) (only_setCells b j [v] w)
variable {dst : Option Tmp} {ty : TypeId} {pos : String} {after : Array Edge} {a : Act} {w : World} {Q : Exit → Act → World → Prop} {x y : Operand} {K : Act → World → Prop} {ops : Array Oper} {S : World → Prop}
theorem s_efr (b : Nat) (h : E) (n : Nat) (t' : TypeId) (hr : RowAt w b h.cells t') (hx : a.eval x = .pointer (some ⟨b, 6, none⟩)) (hy : a.eval y = .int .u32 (n : Nat))
    (k : ∀ W, RowAt W b ({ h with fr := n } : E).cells t' → Only b w W → K (a.put dst undef) W) : Oper.wp Tryd.prog ⟨dst, .store 22 x y, ty, pos, after, none⟩ a w K Q :=
  s_cellO b 6 hx _ hy h.cells _ _ hr size_u32e (by show 6 < 11; decide) rfl rfl k
theorem s_ett (b : Nat) (h : E) (n : Nat) (t' : TypeId) (hr : RowAt w b h.cells t') (hx : a.eval x = .pointer (some ⟨b, 7, none⟩)) (hy : a.eval y = .int .u32 (n : Nat))
    (k : ∀ W, RowAt W b ({ h with tt := n } : E).cells t' → Only b w W → K (a.put dst undef) W) : Oper.wp Tryd.prog ⟨dst, .store 22 x y, ty, pos, after, none⟩ a w K Q :=
  s_cellO b 7 hx _ hy h.cells _ _ hr size_u32e (by show 7 < 11; decide) rfl rfl k
theorem s_elf (b : Nat) (h : E) (n : Nat) (t' : TypeId) (hr : RowAt w b h.cells t') (hx : a.eval x = .pointer (some ⟨b, 8, none⟩)) (hy : a.eval y = .int .u32 (n : Nat))
    (k : ∀ W, RowAt W b ({ h with lf := n } : E).cells t' → Only b w W → K (a.put dst undef) W) : Oper.wp Tryd.prog ⟨dst, .store 22 x y, ty, pos, after, none⟩ a w K Q :=
  s_cellO b 8 hx _ hy h.cells _ _ hr size_u32e (by show 8 < 11; decide) rfl rfl k
theorem s_enx (b : Nat) (h : E) (n : Nat) (t' : TypeId) (hr : RowAt w b h.cells t') (hx : a.eval x = .pointer (some ⟨b, 9, none⟩)) (hy : a.eval y = .int .u32 (n : Nat))
    (k : ∀ W, RowAt W b ({ h with nx := n } : E).cells t' → Only b w W → K (a.put dst undef) W) : Oper.wp Tryd.prog ⟨dst, .store 22 x y, ty, pos, after, none⟩ a w K Q :=
  s_cellO b 9 hx _ hy h.cells _ _ hr size_u32e (by show 9 < 11; decide) rfl rfl k
theorem y_oi (b i : Nat) (h : Nat → Nat) (hi : i < 4) (hS : ∀ V, S V → RowAt V b (ordV h) 132) (hx : a.eval x = .pointer (some ⟨b, i, none⟩)) :
    YieldsIf Tryd.prog ops S ⟨dst, .load 22 x, ty, pos, after, none⟩ (.int .u32 (h i : Nat)) a := y_cell b i _ (fun V hV => ((hS V hV).cell i).trans (ord_at h i hi)) _ Tryd.underlying22 rfl hx
theorem words_0 (f : Nat → Nat) (a : Nat) : numF f (a) 4 = wordsF f a 0 := by simp [wordsF]
theorem words_1 (f : Nat → Nat) (a : Nat) : numF f (a + 4) 4 = wordsF f a 1 := by simp [wordsF]
theorem words_2 (f : Nat → Nat) (a : Nat) : numF f (a + 8) 4 = wordsF f a 2 := by simp [wordsF]
theorem words_3 (f : Nat → Nat) (a : Nat) : numF f (a + 12) 4 = wordsF f a 3 := by simp [wordsF]
end Go.Proofs.YtalcgipcephnnaaDoor
namespace Go.Proofs.YtalcgipcephnnaaDoor
open Go.RowKit
set_option linter.unusedVariables false
set_option linter.unusedSimpArgs false

set_option maxHeartbeats 2000000 in
theorem take_64 {w : World} (s : E) (ok : s.Ok) {B b p c : Nat} {f : Nat → Nat} {O : Nat → Prop} (h : RamB w B b p f c O) (hA : AreasAt w) (hG : 1 < B) (h0 : s.st = 64) : Calls Tryd.prog 35 #[.agg s.cells, .pointer (some ⟨b, 0, none⟩)] w fun e w' => e = .returned (.agg (takeE s f p).cells) ∧ ∃ O', RamB w' B b p (f) (c) O' ∧ Went B O O' w w' := by
  have hGw : 1 < w.heap.size := Nat.lt_of_lt_of_le hG h.base
  have hBw := h.base
  have HV : takeE s f p = endE s 3 := by unfold takeE; rw [if_pos h0]
  rw [HV]; clear HV
  have t0 : ((s.st : Int) == 64) = true := (castq s.st 64).trans (by simp [h0])
  clear h0
  have HE : Hid (∀ (s : E) (w : World), Calls Tryd.prog 62 #[.agg s.cells, .int .u32 3] w fun e w' => e = .returned (.agg (endE s 3).cells) ∧ Below w.heap.size w w') := hide (fun s w => end_any s 3 w)
  go_enter Tryd.func35, Tryd.ntmps35
  go_wp2_with (first | ((with_reducible refine bx_ep w.heap.size s ?_ ?_ ?_); exact rfl; exact rfl; intro W hr hb hz) | ((with_reducible refine al_ep (w.heap.size + 1) ?_ ?_); exact hz.out; intro W hq hb' hz'; replace hr := hr.bl (hz.out ▸ hb'); replace hb := hb.trans (hb'.mono (by omega)); have hM := h.bl hb; have hF := h.far 2; have hS : w.heap.size + 2 ≤ W.heap.size := (by have := hz'.out; omega); have hB : B ≤ W.heap.size := hM.base; replace hA := hA.bl hb; have hW := Went.of (O := O) hb h.base; clear h hb hz hz' hb') | ((with_reducible refine ld_est w.heap.size _ _ hr ?_ ?_); exact rfl) | ((with_reducible refine ld_ep w.heap.size _ hr ?_ ?_ ?_); exact rfl; exact rfl) | (go_at_call 62; (with_reducible refine (HE.out _ _).mono ?_); rintro e W ⟨rfl, hbc⟩; replace hM := hM.bl hbc; replace hW := hW.bl hbc hB; replace hA := hA.bl hbc; replace hB := Nat.le_trans hB hbc.size; replace hS := Nat.le_trans hS hbc.size; replace hr := hr.bl hbc; replace hq := hq.bl hbc; (try replace ho := ho.bl hbc)) | ((with_reducible refine st_ep (w.heap.size + 1) _ (endE s 3) hq ?_ ?_ ?_); exact rfl; exact rfl; intro W hnew hoo; replace hr := hr.only hoo (by omega); replace hM := hM.only hoo (hF.at 1 (by omega)); replace hA := hA.only2 hoo (by omega); replace hW := hW.only hoo (by omega) (by omega); replace hS := (show w.heap.size + 2 ≤ W.heap.size by rw [hoo.size]; exact hS); replace hB := (show B ≤ W.heap.size by rw [hoo.size]; exact hB); replace hq := hnew))
  refine bodyPost_ret (results_cell_row Tryd.results35 _ _ (w.heap.size + 1) _ _ _ _ rfl hq Tryd.underlying29 rfl size_ep) rfl ?_
  exact ⟨rfl, _, hM, hW⟩
set_option maxHeartbeats 2000000 in
theorem take_no {w : World} (s : E) (ok : s.Ok) {B b p c : Nat} {f : Nat → Nat} {O : Nat → Prop} (h : RamB w B b p f c O) (hA : AreasAt w) (hG : 1 < B) (h0 : s.st ≠ 64) (h1 : ordOk p s.pl = false) : Calls Tryd.prog 35 #[.agg s.cells, .pointer (some ⟨b, 0, none⟩)] w fun e w' => e = .returned (.agg (takeE s f p).cells) ∧ ∃ O', RamB w' B b p (f) (c) O' ∧ Went B O O' w w' := by
  have hGw : 1 < w.heap.size := Nat.lt_of_lt_of_le hG h.base
  have hBw := h.base
  have HV : takeE s f p = endE s 3 := by
    unfold takeE; rw [if_neg h0, if_pos]
    unfold ordOk at h1
    by_cases e : s.pl % 4 = 0
    · rw [decide_eq_true e, Bool.true_and] at h1; exact .inr h1
    · exact .inl e
  rw [HV]; clear HV
  have t0 : ((s.st : Int) == 64) = false := (castq s.st 64).trans (by simp [h0])
  have HR : Hid (∀ W O1, RamB W B b p f c O1 → AreasAt W → Calls Tryd.prog 63 #[.pointer (some ⟨b, 0, none⟩), .int .u32 (s.pl : Nat)] W fun e w' => (∃ z : Int, e = .returned (.tuple #[.agg (ordV (fun _ => 0)), .iface 69 (.int .i64 z)])) ∧ ∃ O', RamB w' B b p f c O' ∧ Went B O1 O' W w') := hide (fun W O1 hM hA => ro_no hM hA hG s.pl ok.pl h1)
  clear h0 h1
  have HE : Hid (∀ (s : E) (w : World), Calls Tryd.prog 62 #[.agg s.cells, .int .u32 3] w fun e w' => e = .returned (.agg (endE s 3).cells) ∧ Below w.heap.size w w') := hide (fun s w => end_any s 3 w)
  go_enter Tryd.func35, Tryd.ntmps35
  go_wp2_with (first | ((with_reducible refine bx_ep w.heap.size s ?_ ?_ ?_); exact rfl; exact rfl; intro W hr hb hz) | ((with_reducible refine al_ep (w.heap.size + 1) ?_ ?_); exact hz.out; intro W hq hb' hz'; replace hr := hr.bl (hz.out ▸ hb'); replace hb := hb.trans (hb'.mono (by omega)); have hM := h.bl hb; have hF := h.far 2; have hS : w.heap.size + 2 ≤ W.heap.size := (by have := hz'.out; omega); have hB : B ≤ W.heap.size := hM.base; replace hA := hA.bl hb; have hW := Went.of (O := O) hb h.base; clear h hb hz hz' hb') | ((with_reducible refine ld_est w.heap.size _ _ hr ?_ ?_); exact rfl) | ((with_reducible refine ld_epl w.heap.size _ _ hr ?_ ?_); exact rfl) | (go_at_call 63; (with_reducible refine (HR.out _ _ hM hA).mono ?_); rintro e W2 ⟨⟨z, rfl⟩, O2, hM2, hW2⟩; replace hr := hW2.row hr (hF.at 0 (by omega)); replace hq := hW2.row hq (hF.at 1 (by omega)); replace hA := hA.went hG hW2; replace hF := hF.went hW2 hS; replace hS := Nat.le_trans hS hW2.size; replace hW := hW.trans hW2; replace hB := Nat.le_trans hB hW2.size; replace hM := hM2; clear hM2 hW2; obtain ⟨NX, hNX0⟩ : ∃ n, W2.heap.size = n := ⟨_, rfl⟩; have hNX := hide hNX0; have hNS : w.heap.size + 2 ≤ NX := hNX0 ▸ hS; have hnx : ¬ O2 NX := (fun e => absurd (hM.lt _ e) (by omega)); clear hNX0) | ((with_reducible refine al_od NX ?_ ?_); exact hNX.out; intro W ho hb' hz2; have hbc : Below W2.heap.size W2 W := (by rw [hNX.out]; exact hb'); replace hM := hM.bl hbc; replace hW := hW.bl hbc hB; replace hA := hA.bl hbc; replace hB := Nat.le_trans hB hbc.size; replace hS := Nat.le_trans hS hbc.size; replace hr := hr.bl hbc; replace hq := hq.bl hbc; clear hbc hb' hz2) | ((with_reducible refine st_od NX _ (fun _ => 0) ho ?_ ?_ ?_); exact rfl; exact rfl; intro W hnew hoo; replace hr := hr.only hoo (by omega); replace hq := hq.only hoo (by omega); replace hM := hM.only hoo hnx; replace hA := hA.only2 hoo (by omega); replace hW := hW.only hoo (by omega) (by omega); replace hS := (show w.heap.size + 2 ≤ W.heap.size by rw [hoo.size]; exact hS); replace hB := (show B ≤ W.heap.size by rw [hoo.size]; exact hB); replace ho := hnew) | ((with_reducible refine ld_ep w.heap.size _ hr ?_ ?_ ?_); exact rfl; exact rfl) | (go_at_call 62; (with_reducible refine (HE.out _ _).mono ?_); rintro e W ⟨rfl, hbc⟩; replace hM := hM.bl hbc; replace hW := hW.bl hbc hB; replace hA := hA.bl hbc; replace hB := Nat.le_trans hB hbc.size; replace hS := Nat.le_trans hS hbc.size; replace hr := hr.bl hbc; replace hq := hq.bl hbc; (try replace ho := ho.bl hbc)) | ((with_reducible refine st_ep (w.heap.size + 1) _ (endE s 3) hq ?_ ?_ ?_); exact rfl; exact rfl; intro W hnew hoo; replace hr := hr.only hoo (by omega); replace ho := ho.only hoo (by omega); replace hM := hM.only hoo (hF.at 1 (by omega)); replace hA := hA.only2 hoo (by omega); replace hW := hW.only hoo (by omega) (by omega); replace hS := (show w.heap.size + 2 ≤ W.heap.size by rw [hoo.size]; exact hS); replace hB := (show B ≤ W.heap.size by rw [hoo.size]; exact hB); replace hq := hnew))
  refine bodyPost_ret (results_cell_row Tryd.results35 _ _ (w.heap.size + 1) _ _ _ _ rfl hq Tryd.underlying29 rfl size_ep) rfl ?_
  exact ⟨rfl, _, hM, hW⟩
set_option maxHeartbeats 2000000 in
theorem take_bad {w : World} (s : E) (ok : s.Ok) {B b p c : Nat} {f : Nat → Nat} {O : Nat → Prop} (h : RamB w B b p f c O) (hA : AreasAt w) (hG : 1 < B) (h0 : s.st ≠ 64) (hl : s.st ≤ 64) (h1 : ordOk p s.pl = true) (h2 : wordsF f (s.pl - 2147483648) 2 = 0 ∨ 65536 < wordsF f (s.pl - 2147483648) 2) : Calls Tryd.prog 35 #[.agg s.cells, .pointer (some ⟨b, 0, none⟩)] w fun e w' => e = .returned (.agg (takeE s f p).cells) ∧ ∃ O', RamB w' B b p (f) (c) O' ∧ Went B O O' w w' := by
  have hGw : 1 < w.heap.size := Nat.lt_of_lt_of_le hG h.base
  have hBw := h.base
  obtain ⟨g, hg⟩ : ∃ g, wordsF f (s.pl - 2147483648) = g := ⟨_, rfl⟩
  have hg0 : numF f (s.pl - 2147483648) 4 = g 0 := by rw [← hg]; exact words_0 f _
  have hg1 : numF f (s.pl - 2147483648 + 4) 4 = g 1 := by rw [← hg]; exact words_1 f _
  have hg2 : numF f (s.pl - 2147483648 + 8) 4 = g 2 := by rw [← hg]; exact words_2 f _
  have hg3 : numF f (s.pl - 2147483648 + 12) 4 = g 3 := by rw [← hg]; exact words_3 f _
  have hok : ¬ (s.pl % 4 ≠ 0 ∨ inB p s.pl 16 = false) := by
    unfold ordOk at h1
    simp only [Bool.and_eq_true, decide_eq_true_eq] at h1
    rintro (e | e)
    · exact e h1.1
    · rw [h1.2] at e; cases e
  have hst : s.st < 64 := by omega
  have HV : takeE s f p = endE ({ s with st := s.st + 1 } : E) 3 := by
    unfold takeE; rw [if_neg h0, if_neg hok, hg2, if_pos (hg ▸ h2)]
  rw [HV]; clear HV
  have t0 : ((s.st : Int) == 64) = false := (castq s.st 64).trans (by simp [h0])
  have HR : Hid (∀ W O1, RamB W B b p f c O1 → AreasAt W → Calls Tryd.prog 63 #[.pointer (some ⟨b, 0, none⟩), .int .u32 (s.pl : Nat)] W fun e w' => e = .returned (.tuple #[.agg (ordV g), .nilIface]) ∧ ∃ O', RamB w' B b p f c O' ∧ Went B O1 O' W w') := hide (fun W O1 hM hA => by rw [← hg]; exact ro_ok hM hA hG s.pl ok.pl h1)
  rw [hg] at h2
  clear h0 h1 hg hg0 hg1 hg2 hg3 hok
  obtain ⟨g2, hg2⟩ : ∃ x, g 2 = x := ⟨_, rfl⟩
  rw [hg2] at h2
  have t1 : ((g2 : Int) == 0) = (g2 == 0) := castq g2 0
  have c2 : (ordV g)[2]? = some (.int .u32 (g2 : Nat)) := by rw [← hg2]; rfl
  rcases h2 with h2 | h2
  · have t2 : ((g2 : Int) == 0) = true := t1.trans (by simp [h2])
    clear t1 h2
    have HE : Hid (∀ (s : E) (w : World), Calls Tryd.prog 62 #[.agg s.cells, .int .u32 3] w fun e w' => e = .returned (.agg (endE s 3).cells) ∧ Below w.heap.size w w') := hide (fun s w => end_any s 3 w)
    go_enter Tryd.func35, Tryd.ntmps35
    go_wp2_with (first | ((with_reducible refine bx_ep w.heap.size s ?_ ?_ ?_); exact rfl; exact rfl; intro W hr hb hz) | ((with_reducible refine al_ep (w.heap.size + 1) ?_ ?_); exact hz.out; intro W hq hb' hz'; replace hr := hr.bl (hz.out ▸ hb'); replace hb := hb.trans (hb'.mono (by omega)); have hM := h.bl hb; have hF := h.far 2; have hS : w.heap.size + 2 ≤ W.heap.size := (by have := hz'.out; omega); have hB : B ≤ W.heap.size := hM.base; replace hA := hA.bl hb; have hW := Went.of (O := O) hb h.base; clear h hb hz hz' hb') | ((with_reducible refine ld_est w.heap.size _ _ hr ?_ ?_); exact rfl) | ((with_reducible refine ld_epl w.heap.size _ _ hr ?_ ?_); exact rfl) | (go_at_call 63; (with_reducible refine (HR.out _ _ hM hA).mono ?_); rintro e W2 ⟨rfl, O2, hM2, hW2⟩; replace hr := hW2.row hr (hF.at 0 (by omega)); replace hq := hW2.row hq (hF.at 1 (by omega)); replace hA := hA.went hG hW2; replace hF := hF.went hW2 hS; replace hS := Nat.le_trans hS hW2.size; replace hW := hW.trans hW2; replace hB := Nat.le_trans hB hW2.size; replace hM := hM2; clear hM2 hW2; obtain ⟨NX, hNX0⟩ : ∃ n, W2.heap.size = n := ⟨_, rfl⟩; have hNX := hide hNX0; have hNS : w.heap.size + 2 ≤ NX := hNX0 ▸ hS; have hnx : ¬ O2 NX := (fun e => absurd (hM.lt _ e) (by omega)); clear hNX0) | ((with_reducible refine al_od NX ?_ ?_); exact hNX.out; intro W ho hb' hz2; have hbc : Below W2.heap.size W2 W := (by rw [hNX.out]; exact hb'); replace hM := hM.bl hbc; replace hW := hW.bl hbc hB; replace hA := hA.bl hbc; replace hB := Nat.le_trans hB hbc.size; replace hS := Nat.le_trans hS hbc.size; replace hr := hr.bl hbc; replace hq := hq.bl hbc; clear hbc hb' hz2) | ((with_reducible refine st_od NX _ g ho ?_ ?_ ?_); exact rfl; exact rfl; intro W hnew hoo; replace hr := hr.only hoo (by omega); replace hq := hq.only hoo (by omega); replace hM := hM.only hoo hnx; replace hA := hA.only2 hoo (by omega); replace hW := hW.only hoo (by omega) (by omega); replace hS := (show w.heap.size + 2 ≤ W.heap.size by rw [hoo.size]; exact hS); replace hB := (show B ≤ W.heap.size by rw [hoo.size]; exact hB); replace ho := hnew; have fo2 := (ho.cell 2).trans c2) | ((with_reducible refine st_est w.heap.size _ (s.st + 1) _ hr ?_ ?_ ?_); exact rfl; exact rfl; intro W hnew hoo; replace hq := hq.only hoo (by omega); replace ho := ho.only hoo (by omega); replace hM := hM.only hoo (hF.at 0 (by omega)); replace hA := hA.only2 hoo (by omega); replace hW := hW.only hoo (by omega) (by omega); replace hS := (show w.heap.size + 2 ≤ W.heap.size by rw [hoo.size]; exact hS); replace hB := (show B ≤ W.heap.size by rw [hoo.size]; exact hB); replace hr := hnew; have fo2 := (ho.cell 2).trans c2) | ((with_reducible refine ld_ep w.heap.size _ hr ?_ ?_ ?_); exact rfl; exact rfl) | (go_at_call 62; (with_reducible refine (HE.out _ _).mono ?_); rintro e W ⟨rfl, hbc⟩; replace hM := hM.bl hbc; replace hW := hW.bl hbc hB; replace hA := hA.bl hbc; replace hB := Nat.le_trans hB hbc.size; replace hS := Nat.le_trans hS hbc.size; replace hr := hr.bl hbc; replace hq := hq.bl hbc; (try replace ho := ho.bl hbc)) | ((with_reducible refine st_ep (w.heap.size + 1) _ (endE ({ s with st := s.st + 1 } : E) 3) hq ?_ ?_ ?_); exact rfl; exact rfl; intro W hnew hoo; replace hr := hr.only hoo (by omega); replace ho := ho.only hoo (by omega); replace hM := hM.only hoo (hF.at 1 (by omega)); replace hA := hA.only2 hoo (by omega); replace hW := hW.only hoo (by omega) (by omega); replace hS := (show w.heap.size + 2 ≤ W.heap.size by rw [hoo.size]; exact hS); replace hB := (show B ≤ W.heap.size by rw [hoo.size]; exact hB); replace hq := hnew))
    refine bodyPost_ret (results_cell_row Tryd.results35 _ _ (w.heap.size + 1) _ _ _ _ rfl hq Tryd.underlying29 rfl size_ep) rfl ?_
    exact ⟨rfl, _, hM, hW⟩
  · have t2 : ((g2 : Int) == 0) = false := t1.trans (by simp; omega)
    have t3 : (65536 : Int) < (g2 : Int) := by omega
    clear t1
    have HE : Hid (∀ (s : E) (w : World), Calls Tryd.prog 62 #[.agg s.cells, .int .u32 3] w fun e w' => e = .returned (.agg (endE s 3).cells) ∧ Below w.heap.size w w') := hide (fun s w => end_any s 3 w)
    go_enter Tryd.func35, Tryd.ntmps35
    go_wp2_with (first | ((with_reducible refine bx_ep w.heap.size s ?_ ?_ ?_); exact rfl; exact rfl; intro W hr hb hz) | ((with_reducible refine al_ep (w.heap.size + 1) ?_ ?_); exact hz.out; intro W hq hb' hz'; replace hr := hr.bl (hz.out ▸ hb'); replace hb := hb.trans (hb'.mono (by omega)); have hM := h.bl hb; have hF := h.far 2; have hS : w.heap.size + 2 ≤ W.heap.size := (by have := hz'.out; omega); have hB : B ≤ W.heap.size := hM.base; replace hA := hA.bl hb; have hW := Went.of (O := O) hb h.base; clear h hb hz hz' hb') | ((with_reducible refine ld_est w.heap.size _ _ hr ?_ ?_); exact rfl) | ((with_reducible refine ld_epl w.heap.size _ _ hr ?_ ?_); exact rfl) | (go_at_call 63; (with_reducible refine (HR.out _ _ hM hA).mono ?_); rintro e W2 ⟨rfl, O2, hM2, hW2⟩; replace hr := hW2.row hr (hF.at 0 (by omega)); replace hq := hW2.row hq (hF.at 1 (by omega)); replace hA := hA.went hG hW2; replace hF := hF.went hW2 hS; replace hS := Nat.le_trans hS hW2.size; replace hW := hW.trans hW2; replace hB := Nat.le_trans hB hW2.size; replace hM := hM2; clear hM2 hW2; obtain ⟨NX, hNX0⟩ : ∃ n, W2.heap.size = n := ⟨_, rfl⟩; have hNX := hide hNX0; have hNS : w.heap.size + 2 ≤ NX := hNX0 ▸ hS; have hnx : ¬ O2 NX := (fun e => absurd (hM.lt _ e) (by omega)); clear hNX0) | ((with_reducible refine al_od NX ?_ ?_); exact hNX.out; intro W ho hb' hz2; have hbc : Below W2.heap.size W2 W := (by rw [hNX.out]; exact hb'); replace hM := hM.bl hbc; replace hW := hW.bl hbc hB; replace hA := hA.bl hbc; replace hB := Nat.le_trans hB hbc.size; replace hS := Nat.le_trans hS hbc.size; replace hr := hr.bl hbc; replace hq := hq.bl hbc; clear hbc hb' hz2) | ((with_reducible refine st_od NX _ g ho ?_ ?_ ?_); exact rfl; exact rfl; intro W hnew hoo; replace hr := hr.only hoo (by omega); replace hq := hq.only hoo (by omega); replace hM := hM.only hoo hnx; replace hA := hA.only2 hoo (by omega); replace hW := hW.only hoo (by omega) (by omega); replace hS := (show w.heap.size + 2 ≤ W.heap.size by rw [hoo.size]; exact hS); replace hB := (show B ≤ W.heap.size by rw [hoo.size]; exact hB); replace ho := hnew; have fo2 := (ho.cell 2).trans c2) | ((with_reducible refine st_est w.heap.size _ (s.st + 1) _ hr ?_ ?_ ?_); exact rfl; exact rfl; intro W hnew hoo; replace hq := hq.only hoo (by omega); replace ho := ho.only hoo (by omega); replace hM := hM.only hoo (hF.at 0 (by omega)); replace hA := hA.only2 hoo (by omega); replace hW := hW.only hoo (by omega) (by omega); replace hS := (show w.heap.size + 2 ≤ W.heap.size by rw [hoo.size]; exact hS); replace hB := (show B ≤ W.heap.size by rw [hoo.size]; exact hB); replace hr := hnew; have fo2 := (ho.cell 2).trans c2) | ((with_reducible refine ld_ep w.heap.size _ hr ?_ ?_ ?_); exact rfl; exact rfl) | (go_at_call 62; (with_reducible refine (HE.out _ _).mono ?_); rintro e W ⟨rfl, hbc⟩; replace hM := hM.bl hbc; replace hW := hW.bl hbc hB; replace hA := hA.bl hbc; replace hB := Nat.le_trans hB hbc.size; replace hS := Nat.le_trans hS hbc.size; replace hr := hr.bl hbc; replace hq := hq.bl hbc; (try replace ho := ho.bl hbc)) | ((with_reducible refine st_ep (w.heap.size + 1) _ (endE ({ s with st := s.st + 1 } : E) 3) hq ?_ ?_ ?_); exact rfl; exact rfl; intro W hnew hoo; replace hr := hr.only hoo (by omega); replace ho := ho.only hoo (by omega); replace hM := hM.only hoo (hF.at 1 (by omega)); replace hA := hA.only2 hoo (by omega); replace hW := hW.only hoo (by omega) (by omega); replace hS := (show w.heap.size + 2 ≤ W.heap.size by rw [hoo.size]; exact hS); replace hB := (show B ≤ W.heap.size by rw [hoo.size]; exact hB); replace hq := hnew))
    refine bodyPost_ret (results_cell_row Tryd.results35 _ _ (w.heap.size + 1) _ _ _ _ rfl hq Tryd.underlying29 rfl size_ep) rfl ?_
    exact ⟨rfl, _, hM, hW⟩
set_option maxHeartbeats 2000000 in
theorem take_ok {w : World} (s : E) (ok : s.Ok) {B b p c : Nat} {f : Nat → Nat} {O : Nat → Prop} (h : RamB w B b p f c O) (hA : AreasAt w) (hG : 1 < B) (h0 : s.st ≠ 64) (hl : s.st ≤ 64) (h1 : ordOk p s.pl = true) (h2 : ¬ (wordsF f (s.pl - 2147483648) 2 = 0 ∨ 65536 < wordsF f (s.pl - 2147483648) 2)) : Calls Tryd.prog 35 #[.agg s.cells, .pointer (some ⟨b, 0, none⟩)] w fun e w' => e = .returned (.agg (takeE s f p).cells) ∧ ∃ O', RamB w' B b p (f) (c) O' ∧ Went B O O' w w' := by
  have hGw : 1 < w.heap.size := Nat.lt_of_lt_of_le hG h.base
  have hBw := h.base
  obtain ⟨g, hg⟩ : ∃ g, wordsF f (s.pl - 2147483648) = g := ⟨_, rfl⟩
  have hg0 : numF f (s.pl - 2147483648) 4 = g 0 := by rw [← hg]; exact words_0 f _
  have hg1 : numF f (s.pl - 2147483648 + 4) 4 = g 1 := by rw [← hg]; exact words_1 f _
  have hg2 : numF f (s.pl - 2147483648 + 8) 4 = g 2 := by rw [← hg]; exact words_2 f _
  have hg3 : numF f (s.pl - 2147483648 + 12) 4 = g 3 := by rw [← hg]; exact words_3 f _
  have hok : ¬ (s.pl % 4 ≠ 0 ∨ inB p s.pl 16 = false) := by
    unfold ordOk at h1
    simp only [Bool.and_eq_true, decide_eq_true_eq] at h1
    rintro (e | e)
    · exact e h1.1
    · rw [h1.2] at e; cases e
  have hst : s.st < 64 := by omega
  have HV : takeE s f p = ({ s with st := s.st + 1, hv := true, fr := g 0, tt := g 1, lf := g 2, nx := g 3 } : E) := by
    unfold takeE; rw [if_neg h0, if_neg hok, hg0, hg1, hg2, hg3, if_neg (hg ▸ h2)]
  rw [HV]; clear HV
  have t0 : ((s.st : Int) == 64) = false := (castq s.st 64).trans (by simp [h0])
  have HR : Hid (∀ W O1, RamB W B b p f c O1 → AreasAt W → Calls Tryd.prog 63 #[.pointer (some ⟨b, 0, none⟩), .int .u32 (s.pl : Nat)] W fun e w' => e = .returned (.tuple #[.agg (ordV g), .nilIface]) ∧ ∃ O', RamB w' B b p f c O' ∧ Went B O1 O' W w') := hide (fun W O1 hM hA => by rw [← hg]; exact ro_ok hM hA hG s.pl ok.pl h1)
  rw [hg] at h2
  clear h0 h1 hg hg0 hg1 hg2 hg3 hok
  have c2 : (ordV g)[2]? = some (.int .u32 (g 2 : Nat)) := rfl
  have t2 : ((g 2 : Int) == 0) = false := (castq (g 2) 0).trans (by simp; omega)
  have t3 : decide ((65536 : Int) < (g 2 : Int)) = false := by simp; omega
  have t3n : decide (65536 < g 2) = false := by simp; omega
  clear h2
  go_enter Tryd.func35, Tryd.ntmps35
  go_wp2_with (first | ((with_reducible refine bx_ep w.heap.size s ?_ ?_ ?_); exact rfl; exact rfl; intro W hr hb hz) | ((with_reducible refine al_ep (w.heap.size + 1) ?_ ?_); exact hz.out; intro W hq hb' hz'; replace hr := hr.bl (hz.out ▸ hb'); replace hb := hb.trans (hb'.mono (by omega)); have hM := h.bl hb; have hF := h.far 2; have hS : w.heap.size + 2 ≤ W.heap.size := (by have := hz'.out; omega); have hB : B ≤ W.heap.size := hM.base; replace hA := hA.bl hb; have hW := Went.of (O := O) hb h.base; clear h hb hz hz' hb') | ((with_reducible refine ld_est w.heap.size _ _ hr ?_ ?_); exact rfl) | ((with_reducible refine ld_epl w.heap.size _ _ hr ?_ ?_); exact rfl) | (go_at_call 63; (with_reducible refine (HR.out _ _ hM hA).mono ?_); rintro e W2 ⟨rfl, O2, hM2, hW2⟩; replace hr := hW2.row hr (hF.at 0 (by omega)); replace hq := hW2.row hq (hF.at 1 (by omega)); replace hA := hA.went hG hW2; replace hF := hF.went hW2 hS; replace hS := Nat.le_trans hS hW2.size; replace hW := hW.trans hW2; replace hB := Nat.le_trans hB hW2.size; replace hM := hM2; clear hM2 hW2; obtain ⟨NX, hNX0⟩ : ∃ n, W2.heap.size = n := ⟨_, rfl⟩; have hNX := hide hNX0; have hNS : w.heap.size + 2 ≤ NX := hNX0 ▸ hS; have hnx : ¬ O2 NX := (fun e => absurd (hM.lt _ e) (by omega)); clear hNX0) | ((with_reducible refine al_od NX ?_ ?_); exact hNX.out; intro W ho hb' hz2; have hbc : Below W2.heap.size W2 W := (by rw [hNX.out]; exact hb'); replace hM := hM.bl hbc; replace hW := hW.bl hbc hB; replace hA := hA.bl hbc; replace hB := Nat.le_trans hB hbc.size; replace hS := Nat.le_trans hS hbc.size; replace hr := hr.bl hbc; replace hq := hq.bl hbc; clear hbc hb' hz2) | ((with_reducible refine st_od NX _ g ho ?_ ?_ ?_); exact rfl; exact rfl; intro W hnew hoo; replace hr := hr.only hoo (by omega); replace hq := hq.only hoo (by omega); replace hM := hM.only hoo hnx; replace hA := hA.only2 hoo (by omega); replace hW := hW.only hoo (by omega) (by omega); replace hS := (show w.heap.size + 2 ≤ W.heap.size by rw [hoo.size]; exact hS); replace hB := (show B ≤ W.heap.size by rw [hoo.size]; exact hB); replace ho := hnew; have fo2 := (ho.cell 2).trans c2) | ((with_reducible refine st_est w.heap.size _ (s.st + 1) _ hr ?_ ?_ ?_); exact rfl; exact rfl; intro W hnew hoo; replace hq := hq.only hoo (by omega); replace ho := ho.only hoo (by omega); replace hM := hM.only hoo (hF.at 0 (by omega)); replace hA := hA.only2 hoo (by omega); replace hW := hW.only hoo (by omega) (by omega); replace hS := (show w.heap.size + 2 ≤ W.heap.size by rw [hoo.size]; exact hS); replace hB := (show B ≤ W.heap.size by rw [hoo.size]; exact hB); replace hr := hnew; have fo2 := (ho.cell 2).trans c2) | ((with_reducible refine st_ehv w.heap.size _ true _ hr ?_ ?_ ?_); exact rfl; exact rfl; intro W hnew hoo; replace hq := hq.only hoo (by omega); replace ho := ho.only hoo (by omega); replace hM := hM.only hoo (hF.at 0 (by omega)); replace hA := hA.only2 hoo (by omega); replace hW := hW.only hoo (by omega) (by omega); replace hS := (show w.heap.size + 2 ≤ W.heap.size by rw [hoo.size]; exact hS); replace hB := (show B ≤ W.heap.size by rw [hoo.size]; exact hB); replace hr := hnew) | ((with_reducible refine ld_ep w.heap.size _ hr ?_ ?_ ?_); exact rfl; exact rfl) | ((with_reducible refine st_ep (w.heap.size + 1) _ ({ s with st := s.st + 1, hv := true, fr := g 0, tt := g 1, lf := g 2, nx := g 3 } : E) hq ?_ ?_ ?_); exact rfl; exact rfl; intro W hnew hoo; replace hr := hr.only hoo (by omega); replace ho := ho.only hoo (by omega); replace hM := hM.only hoo (hF.at 1 (by omega)); replace hA := hA.only2 hoo (by omega); replace hW := hW.only hoo (by omega) (by omega); replace hS := (show w.heap.size + 2 ≤ W.heap.size by rw [hoo.size]; exact hS); replace hB := (show B ≤ W.heap.size by rw [hoo.size]; exact hB); replace hq := hnew))
  refine wp_region_held_drew (S := (fun V => RowAt V NX (ordV g) 132 ∧ RowAt V (w.heap.size + 1) zeroE.cells 29 ∧ RamB V B b p f c O2 ∧ Went B O O2 w V ∧ w.heap.size + 2 ≤ V.heap.size)) (by kernel_rfl) ?_ (fun hHeld => ?_)
  · exact ⟨ho.dr, hq.dr, hM.dr, hW.dr, hS⟩
  replace hr := hr.dr
  generalize W.drew = V at hHeld hr ⊢
  clear ho hq hM hW hS hA hB fo2
  refine wpAnyH_take (i := 0) (oi := ?oi1) (v := .pointer (some ⟨NX, 0, none⟩)) ?hi1 (by kernel_rfl) (by kernel_rfl) (by kernel_rfl) ?hQ1 ?hy1 (by assumption) ?rest1
  case hi1 => (simp only [List.getElem?_toArray, List.getElem?_cons_zero]; rfl)
  case hQ1 => exact fun _ _ _ h => h
  case hy1 => exact Or.inl ⟨by rfl, by (intro w hSw; (try dsimp only at hSw); go_simp )⟩
  simp only [Act.put, List.setIfInBounds_toArray, List.set_cons_zero, List.set_cons_succ]
  refine wpAnyH_take (i := 1) (oi := ?oi2) (v := .int .u32 (g 0 : Nat)) ?hi2 (by kernel_rfl) (by kernel_rfl) (by kernel_rfl) ?hQ2 ?hy2 (by assumption) ?rest2
  case hi2 => (simp only [List.getElem?_toArray, List.getElem?_cons_zero, List.getElem?_cons_succ]; rfl)
  case hQ2 => exact fun _ _ _ h => h
  case hy2 => exact y_oi NX 0 g (by decide) (fun V hV => hV.1) rfl
  simp only [Act.put, List.setIfInBounds_toArray, List.set_cons_zero, List.set_cons_succ]
  refine wpAnyH_take (i := 2) (oi := ?oi3) (v := .pointer (some ⟨NX, 1, none⟩)) ?hi3 (by kernel_rfl) (by kernel_rfl) (by kernel_rfl) ?hQ3 ?hy3 (by assumption) ?rest3
  case hi3 => (simp only [List.getElem?_toArray, List.getElem?_cons_zero, List.getElem?_cons_succ]; rfl)
  case hQ3 => exact fun _ _ _ h => h
  case hy3 => exact Or.inl ⟨by rfl, by (intro w hSw; (try dsimp only at hSw); go_simp )⟩
  simp only [Act.put, List.setIfInBounds_toArray, List.set_cons_zero, List.set_cons_succ]
  refine wpAnyH_take (i := 3) (oi := ?oi4) (v := .int .u32 (g 1 : Nat)) ?hi4 (by kernel_rfl) (by kernel_rfl) (by kernel_rfl) ?hQ4 ?hy4 (by assumption) ?rest4
  case hi4 => (simp only [List.getElem?_toArray, List.getElem?_cons_zero, List.getElem?_cons_succ]; rfl)
  case hQ4 => exact fun _ _ _ h => h
  case hy4 => exact y_oi NX 1 g (by decide) (fun V hV => hV.1) rfl
  simp only [Act.put, List.setIfInBounds_toArray, List.set_cons_zero, List.set_cons_succ]
  refine wpAnyH_take (i := 4) (oi := ?oi5) (v := .pointer (some ⟨NX, 2, none⟩)) ?hi5 (by kernel_rfl) (by kernel_rfl) (by kernel_rfl) ?hQ5 ?hy5 (by assumption) ?rest5
  case hi5 => (simp only [List.getElem?_toArray, List.getElem?_cons_zero, List.getElem?_cons_succ]; rfl)
  case hQ5 => exact fun _ _ _ h => h
  case hy5 => exact Or.inl ⟨by rfl, by (intro w hSw; (try dsimp only at hSw); go_simp )⟩
  simp only [Act.put, List.setIfInBounds_toArray, List.set_cons_zero, List.set_cons_succ]
  refine wpAnyH_take (i := 5) (oi := ?oi6) (v := .int .u32 (g 2 : Nat)) ?hi6 (by kernel_rfl) (by kernel_rfl) (by kernel_rfl) ?hQ6 ?hy6 (by assumption) ?rest6
  case hi6 => (simp only [List.getElem?_toArray, List.getElem?_cons_zero, List.getElem?_cons_succ]; rfl)
  case hQ6 => exact fun _ _ _ h => h
  case hy6 => exact y_oi NX 2 g (by decide) (fun V hV => hV.1) rfl
  simp only [Act.put, List.setIfInBounds_toArray, List.set_cons_zero, List.set_cons_succ]
  refine wpAnyH_take (i := 6) (oi := ?oi7) (v := .pointer (some ⟨NX, 3, none⟩)) ?hi7 (by kernel_rfl) (by kernel_rfl) (by kernel_rfl) ?hQ7 ?hy7 (by assumption) ?rest7
  case hi7 => (simp only [List.getElem?_toArray, List.getElem?_cons_zero, List.getElem?_cons_succ]; rfl)
  case hQ7 => exact fun _ _ _ h => h
  case hy7 => exact Or.inl ⟨by rfl, by (intro w hSw; (try dsimp only at hSw); go_simp )⟩
  simp only [Act.put, List.setIfInBounds_toArray, List.set_cons_zero, List.set_cons_succ]
  refine wpAnyH_take (i := 7) (oi := ?oi8) (v := .int .u32 (g 3 : Nat)) ?hi8 (by kernel_rfl) (by kernel_rfl) (by kernel_rfl) ?hQ8 ?hy8 (by assumption) ?rest8
  case hi8 => (simp only [List.getElem?_toArray, List.getElem?_cons_zero, List.getElem?_cons_succ]; rfl)
  case hQ8 => exact fun _ _ _ h => h
  case hy8 => exact y_oi NX 3 g (by decide) (fun V hV => hV.1) rfl
  simp only [Act.put, List.setIfInBounds_toArray, List.set_cons_zero, List.set_cons_succ]
  refine wpAnyH_take (i := 8) (oi := ?oi9) (v := .pointer (some ⟨w.heap.size, 6, none⟩)) ?hi9 (by kernel_rfl) (by kernel_rfl) (by kernel_rfl) ?hQ9 ?hy9 (by assumption) ?rest9
  case hi9 => (simp only [List.getElem?_toArray, List.getElem?_cons_zero, List.getElem?_cons_succ]; rfl)
  case hQ9 => exact fun _ _ _ h => h
  case hy9 => exact Or.inl ⟨by rfl, by (intro w hSw; (try dsimp only at hSw); go_simp )⟩
  simp only [Act.put, List.setIfInBounds_toArray, List.set_cons_zero, List.set_cons_succ]
  refine wpAnyH_ready (rs := [9]) (by kernel_rfl) (by simp) ?_
  refine AllReadyH.cons (o := ?oi10) ?hi10 (fun K hK => ?_) AllReadyH.nil
  case hi10 => (simp only [List.getElem?_toArray, List.getElem?_cons_zero, List.getElem?_cons_succ]; rfl)
  rw [if_pos (by rfl)]
  (with_reducible refine s_efr w.heap.size _ (g 0) _ hr ?_ ?_ ?_)
  · exact rfl
  · exact rfl
  intro V hnew hoo
  have hH2 := hide (And.intro (hHeld.1.only hoo (by omega)) (And.intro (hHeld.2.1.only hoo (by omega)) (And.intro (hHeld.2.2.1.only hoo (hF.at 0 (by omega))) (And.intro (hHeld.2.2.2.1.only hoo (by omega) (by omega)) (show w.heap.size + 2 ≤ V.heap.size by rw [hoo.size]; exact hHeld.2.2.2.2)))))
  replace hr := hnew
  clear hHeld hnew hoo
  refine hK.out _ _ ?_ (fun hHeld => ?_)
  · exact hH2.out
  clear hK K
  clear hH2
  refine wpAnyH_take (i := 10) (oi := ?oi11) (v := .pointer (some ⟨w.heap.size, 7, none⟩)) ?hi11 (by kernel_rfl) (by kernel_rfl) (by kernel_rfl) ?hQ11 ?hy11 (by assumption) ?rest11
  case hi11 => (simp only [List.getElem?_toArray, List.getElem?_cons_zero, List.getElem?_cons_succ]; rfl)
  case hQ11 => exact fun _ _ _ h => h
  case hy11 => exact Or.inl ⟨by rfl, by (intro w hSw; (try dsimp only at hSw); go_simp )⟩
  simp only [Act.put, List.setIfInBounds_toArray, List.set_cons_zero, List.set_cons_succ]
  refine wpAnyH_ready (rs := [11]) (by kernel_rfl) (by simp) ?_
  refine AllReadyH.cons (o := ?oi12) ?hi12 (fun K hK => ?_) AllReadyH.nil
  case hi12 => (simp only [List.getElem?_toArray, List.getElem?_cons_zero, List.getElem?_cons_succ]; rfl)
  rw [if_pos (by rfl)]
  (with_reducible refine s_ett w.heap.size _ (g 1) _ hr ?_ ?_ ?_)
  · exact rfl
  · exact rfl
  intro V hnew hoo
  have hH2 := hide (And.intro (hHeld.1.only hoo (by omega)) (And.intro (hHeld.2.1.only hoo (by omega)) (And.intro (hHeld.2.2.1.only hoo (hF.at 0 (by omega))) (And.intro (hHeld.2.2.2.1.only hoo (by omega) (by omega)) (show w.heap.size + 2 ≤ V.heap.size by rw [hoo.size]; exact hHeld.2.2.2.2)))))
  replace hr := hnew
  clear hHeld hnew hoo
  refine hK.out _ _ ?_ (fun hHeld => ?_)
  · exact hH2.out
  clear hK K
  clear hH2
  refine wpAnyH_take (i := 12) (oi := ?oi13) (v := .pointer (some ⟨w.heap.size, 8, none⟩)) ?hi13 (by kernel_rfl) (by kernel_rfl) (by kernel_rfl) ?hQ13 ?hy13 (by assumption) ?rest13
  case hi13 => (simp only [List.getElem?_toArray, List.getElem?_cons_zero, List.getElem?_cons_succ]; rfl)
  case hQ13 => exact fun _ _ _ h => h
  case hy13 => exact Or.inl ⟨by rfl, by (intro w hSw; (try dsimp only at hSw); go_simp )⟩
  simp only [Act.put, List.setIfInBounds_toArray, List.set_cons_zero, List.set_cons_succ]
  refine wpAnyH_ready (rs := [13]) (by kernel_rfl) (by simp) ?_
  refine AllReadyH.cons (o := ?oi14) ?hi14 (fun K hK => ?_) AllReadyH.nil
  case hi14 => (simp only [List.getElem?_toArray, List.getElem?_cons_zero, List.getElem?_cons_succ]; rfl)
  rw [if_pos (by rfl)]
  (with_reducible refine s_elf w.heap.size _ (g 2) _ hr ?_ ?_ ?_)
  · exact rfl
  · exact rfl
  intro V hnew hoo
  have hH2 := hide (And.intro (hHeld.1.only hoo (by omega)) (And.intro (hHeld.2.1.only hoo (by omega)) (And.intro (hHeld.2.2.1.only hoo (hF.at 0 (by omega))) (And.intro (hHeld.2.2.2.1.only hoo (by omega) (by omega)) (show w.heap.size + 2 ≤ V.heap.size by rw [hoo.size]; exact hHeld.2.2.2.2)))))
  replace hr := hnew
  clear hHeld hnew hoo
  refine hK.out _ _ ?_ (fun hHeld => ?_)
  · exact hH2.out
  clear hK K
  clear hH2
  refine wpAnyH_take (i := 14) (oi := ?oi15) (v := .pointer (some ⟨w.heap.size, 9, none⟩)) ?hi15 (by kernel_rfl) (by kernel_rfl) (by kernel_rfl) ?hQ15 ?hy15 (by assumption) ?rest15
  case hi15 => (simp only [List.getElem?_toArray, List.getElem?_cons_zero, List.getElem?_cons_succ]; rfl)
  case hQ15 => exact fun _ _ _ h => h
  case hy15 => exact Or.inl ⟨by rfl, by (intro w hSw; (try dsimp only at hSw); go_simp )⟩
  simp only [Act.put, List.setIfInBounds_toArray, List.set_cons_zero, List.set_cons_succ]
  refine wpAnyH_ready (rs := [15]) (by kernel_rfl) (by simp) ?_
  refine AllReadyH.cons (o := ?oi16) ?hi16 (fun K hK => ?_) AllReadyH.nil
  case hi16 => (simp only [List.getElem?_toArray, List.getElem?_cons_zero, List.getElem?_cons_succ]; rfl)
  rw [if_pos (by rfl)]
  (with_reducible refine s_enx w.heap.size _ (g 3) _ hr ?_ ?_ ?_)
  · exact rfl
  · exact rfl
  intro V hnew hoo
  have hH2 := hide (And.intro (hHeld.1.only hoo (by omega)) (And.intro (hHeld.2.1.only hoo (by omega)) (And.intro (hHeld.2.2.1.only hoo (hF.at 0 (by omega))) (And.intro (hHeld.2.2.2.1.only hoo (by omega) (by omega)) (show w.heap.size + 2 ≤ V.heap.size by rw [hoo.size]; exact hHeld.2.2.2.2)))))
  replace hr := hnew
  clear hHeld hnew hoo
  refine hK.out _ _ ?_ (fun hHeld => ?_)
  · exact hH2.out
  clear hK K
  clear hH2
  refine wpAnyH_done (by kernel_rfl) ?_ _
  obtain ⟨ho, hq, hM, hW, hS⟩ := hHeld
  have hB : B ≤ V.heap.size := by omega
  go_wp2_with (first | ((with_reducible refine ld_ep w.heap.size _ hr ?_ ?_ ?_); exact rfl; exact rfl) | ((with_reducible refine st_ep (w.heap.size + 1) _ ({ s with st := s.st + 1, hv := true, fr := g 0, tt := g 1, lf := g 2, nx := g 3 } : E) hq ?_ ?_ ?_); exact rfl; exact rfl; intro W hnew hoo; replace hM := hM.only hoo (hF.at 1 (by omega)); replace hW := hW.only hoo (by omega) (by omega); replace hq := hnew))
  refine bodyPost_ret (results_cell_row Tryd.results35 _ _ (w.heap.size + 1) _ _ _ _ rfl hq Tryd.underlying29 rfl size_ep) rfl ?_
  exact ⟨rfl, _, hM, hW⟩
theorem take_any {w : World} (s : E) (ok : s.Ok) {B b p c : Nat} {f : Nat → Nat} {O : Nat → Prop} (h : RamB w B b p f c O) (hA : AreasAt w) (hG : 1 < B) (hl : s.st ≤ 64) : Calls Tryd.prog 35 #[.agg s.cells, .pointer (some ⟨b, 0, none⟩)] w fun e w' => e = .returned (.agg (takeE s f p).cells) ∧ ∃ O', RamB w' B b p f c O' ∧ Went B O O' w w' := by
  by_cases h0 : s.st = 64
  · exact take_64 s ok h hA hG h0
  cases h1 : ordOk p s.pl with
  | false => exact take_no s ok h hA hG h0 h1
  | true =>
    by_cases h2 : wordsF f (s.pl - 2147483648) 2 = 0 ∨ 65536 < wordsF f (s.pl - 2147483648) 2
    · exact take_bad s ok h hA hG h0 hl h1 h2
    · exact take_ok s ok h hA hG h0 hl h1 h2
end Go.Proofs.YtalcgipcephnnaaDoor
namespace Go.Proofs.YtalcgipcephnnaaDoor
open Go.RowKit
set_option linter.unusedVariables false
set_option linter.unusedSimpArgs false

theorem add_m32 (a n : Nat) : ((a : Int) + (n : Int)) % 4294967296 = (m32 (a + n) : Int) := by unfold m32; omega
theorem burst_le {s : E} (h : 1 ≤ s.lf) : 0 < burst s ∧ burst s ≤ 64 ∧ burst s ≤ s.lf := by unfold burst; split <;> omega
set_option maxHeartbeats 2000000 in
theorem move_no {w : World} (s : E) (ok : s.Ok) {B b p c : Nat} {f : Nat → Nat} {O : Nat → Prop} (h : RamB w B b p f c O) (hA : AreasAt w) (hG : 1 < B) (hl : 1 ≤ s.lf) (h0 : canE s p = false) : Calls Tryd.prog 34 #[.agg s.cells, .pointer (some ⟨b, 0, none⟩)] w fun e w' => e = .returned (.agg (moveE s p).cells) ∧ ∃ O', RamB w' B b p (f) (c) O' ∧ Went B O O' w w' := by
  have hGw : 1 < w.heap.size := Nat.lt_of_lt_of_le hG h.base
  have hBw := h.base
  obtain ⟨hn0, hn64, hnl⟩ := burst_le hl
  obtain ⟨n, hn⟩ : ∃ n, burst s = n := ⟨_, rfl⟩
  have hmin : min (s.lf : Int) 64 = (n : Int) := by rw [← hn]; unfold burst; split <;> omega
  have HV : moveE s p = endE s 3 := by unfold moveE; rw [if_pos h0]
  rw [HV]; clear HV
  have HB : Hid (∀ W O1, RamB W B b p f c O1 → AreasAt W → Calls Tryd.prog 61 #[.pointer (some ⟨b, 0, none⟩), .int .u32 (s.fr : Nat), .int .u32 (s.tt : Nat), .int .u32 (n : Nat)] W fun e w' => (∃ z : Int, e = .returned (.iface 69 (.int .i64 z))) ∧ ∃ O', RamB w' B b p f c O' ∧ Went B O1 O' W w') := hide (fun W O1 hM hA => by
    rw [← hn]
    unfold canE at h0
    cases h1 : inB p s.fr (burst s) with
    | false => exact mb_from hM hA hG s.fr s.tt (burst s) ok.fr ok.tt hn0 hn64 h1
    | true =>
      rw [h1, Bool.true_and] at h0
      exact mb_to hM hA hG s.fr s.tt (burst s) ok.fr ok.tt hn0 hn64 h1 h0)
  clear h0
  have HE : Hid (∀ (s : E) (w : World), Calls Tryd.prog 62 #[.agg s.cells, .int .u32 3] w fun e w' => e = .returned (.agg (endE s 3).cells) ∧ Below w.heap.size w w') := hide (fun s w => end_any s 3 w)
  go_enter Tryd.func34, Tryd.ntmps34
  go_wp2_with (first | ((with_reducible refine bx_ep w.heap.size s ?_ ?_ ?_); exact rfl; exact rfl; intro W hr hb hz) | ((with_reducible refine al_ep (w.heap.size + 1) ?_ ?_); exact hz.out; intro W hq hb' hz'; replace hr := hr.bl (hz.out ▸ hb'); replace hb := hb.trans (hb'.mono (by omega)); have hM := h.bl hb; have hF := h.far 2; have hS : w.heap.size + 2 ≤ W.heap.size := (by have := hz'.out; omega); have hB : B ≤ W.heap.size := hM.base; replace hA := hA.bl hb; have hW := Went.of (O := O) hb h.base; clear h hb hz hz' hb') | ((with_reducible refine ld_efr w.heap.size _ _ hr ?_ ?_); exact rfl) | ((with_reducible refine ld_ett w.heap.size _ _ hr ?_ ?_); exact rfl) | ((with_reducible refine ld_elf w.heap.size _ _ hr ?_ ?_); exact rfl) | ((with_reducible refine ld_enx w.heap.size _ _ hr ?_ ?_); exact rfl) | ((with_reducible refine ld_emv w.heap.size _ _ hr ?_ ?_); exact rfl) | ((with_reducible refine ld_ep w.heap.size _ hr ?_ ?_ ?_); exact rfl; exact rfl) | (go_at_call 61; (with_reducible refine (HB.out _ _ hM hA).mono ?_); rintro e W2 ⟨⟨z, rfl⟩, O2, hM2, hW2⟩; replace hr := hW2.row hr (hF.at 0 (by omega)); replace hq := hW2.row hq (hF.at 1 (by omega)); replace hA := hA.went hG hW2; replace hF := hF.went hW2 hS; replace hS := Nat.le_trans hS hW2.size; replace hW := hW.trans hW2; replace hB := Nat.le_trans hB hW2.size; replace hM := hM2; clear hM2 hW2) | (go_at_call 62; (with_reducible refine (HE.out _ _).mono ?_); rintro e W ⟨rfl, hbc⟩; replace hM := hM.bl hbc; replace hW := hW.bl hbc hB; replace hA := hA.bl hbc; replace hB := Nat.le_trans hB hbc.size; replace hS := Nat.le_trans hS hbc.size; replace hr := hr.bl hbc; replace hq := hq.bl hbc; (try replace ho := ho.bl hbc)) | ((with_reducible refine st_ep (w.heap.size + 1) _ (endE s 3) hq ?_ ?_ ?_); exact rfl; exact rfl; intro W hnew hoo; replace hr := hr.only hoo (by omega); replace hM := hM.only hoo (hF.at 1 (by omega)); replace hA := hA.only2 hoo (by omega); replace hW := hW.only hoo (by omega) (by omega); replace hS := (show w.heap.size + 2 ≤ W.heap.size by rw [hoo.size]; exact hS); replace hB := (show B ≤ W.heap.size by rw [hoo.size]; exact hB); replace hq := hnew))
  refine bodyPost_ret (results_cell_row Tryd.results34 _ _ (w.heap.size + 1) _ _ _ _ rfl hq Tryd.underlying29 rfl size_ep) rfl ?_
  exact ⟨rfl, _, hM, hW⟩
set_option maxHeartbeats 2000000 in
theorem move_on {w : World} (s : E) (ok : s.Ok) {B b p c : Nat} {f : Nat → Nat} {O : Nat → Prop} (h : RamB w B b p f c O) (hA : AreasAt w) (hG : 1 < B) (hl : 1 ≤ s.lf) (h0 : canE s p = true) (hc : c ≤ 1000000) (h1 : burst s < s.lf) : Calls Tryd.prog 34 #[.agg s.cells, .pointer (some ⟨b, 0, none⟩)] w fun e w' => e = .returned (.agg (moveE s p).cells) ∧ ∃ O', RamB w' B b p (wroteF f (s.tt - 2147483648) (cutF f (s.fr - 2147483648) (burst s))) (c + 1) O' ∧ Went B O O' w w' := by
  have hGw : 1 < w.heap.size := Nat.lt_of_lt_of_le hG h.base
  have hBw := h.base
  obtain ⟨hn0, hn64, hnl⟩ := burst_le hl
  obtain ⟨n, hn⟩ : ∃ n, burst s = n := ⟨_, rfl⟩
  have hmin : min (s.lf : Int) 64 = (n : Int) := by rw [← hn]; unfold burst; split <;> omega
  obtain ⟨F1, hF1⟩ : ∃ g, g = wroteF f (s.tt - 2147483648) (cutF f (s.fr - 2147483648) (burst s)) := ⟨_, rfl⟩
  rw [← hF1]
  have HV : moveE s p = ({ s with fr := m32 (s.fr + n), tt := m32 (s.tt + n), lf := s.lf - n, mv := m32 (s.mv + n) } : E) := by
    unfold moveE; rw [if_neg (by rw [h0]; decide), if_pos h1]; unfold onE; rw [hn]
  rw [HV]; clear HV
  have HB : Hid (∀ W O1, RamB W B b p f c O1 → AreasAt W → Calls Tryd.prog 61 #[.pointer (some ⟨b, 0, none⟩), .int .u32 (s.fr : Nat), .int .u32 (s.tt : Nat), .int .u32 (n : Nat)] W fun e w' => e = .returned .nilIface ∧ ∃ O', RamB w' B b p F1 (c + 1) O' ∧ Went B O1 O' W w') := hide (fun W O1 hM hA => by
    rw [← hn]
    rw [hF1]
    unfold canE at h0
    rw [Bool.and_eq_true] at h0
    exact mb_ok hM hA hG s.fr s.tt (burst s) ok.fr ok.tt hn0 hn64 h0.1 h0.2 hc)
  have e1 : ((s.fr : Int) + (n : Int)) % 4294967296 = ((m32 (s.fr + n) : Nat) : Int) := add_m32 _ _
  have e2 : ((s.tt : Int) + (n : Int)) % 4294967296 = ((m32 (s.tt + n) : Nat) : Int) := add_m32 _ _
  have e4 : ((s.mv : Int) + (n : Int)) % 4294967296 = ((m32 (s.mv + n) : Nat) : Int) := add_m32 _ _
  have e3 : ((s.lf : Int) - (n : Int)) = ((s.lf - n : Nat) : Int) := by omega
  have e3m : ((s.lf : Int) - (n : Int)) % 4294967296 = ((s.lf - n : Nat) : Int) := by have := ok.lf; omega
  have t1 : 0 < s.lf - n := by omega
  have t1i : (0 : Int) < ((s.lf - n : Nat) : Int) := by omega
  clear h0 hF1 hc
  go_enter Tryd.func34, Tryd.ntmps34
  go_wp2_with (first | ((with_reducible refine bx_ep w.heap.size s ?_ ?_ ?_); exact rfl; exact rfl; intro W hr hb hz) | ((with_reducible refine al_ep (w.heap.size + 1) ?_ ?_); exact hz.out; intro W hq hb' hz'; replace hr := hr.bl (hz.out ▸ hb'); replace hb := hb.trans (hb'.mono (by omega)); have hM := h.bl hb; have hF := h.far 2; have hS : w.heap.size + 2 ≤ W.heap.size := (by have := hz'.out; omega); have hB : B ≤ W.heap.size := hM.base; replace hA := hA.bl hb; have hW := Went.of (O := O) hb h.base; clear h hb hz hz' hb') | ((with_reducible refine ld_efr w.heap.size _ _ hr ?_ ?_); exact rfl) | ((with_reducible refine ld_ett w.heap.size _ _ hr ?_ ?_); exact rfl) | ((with_reducible refine ld_elf w.heap.size _ _ hr ?_ ?_); exact rfl) | ((with_reducible refine ld_enx w.heap.size _ _ hr ?_ ?_); exact rfl) | ((with_reducible refine ld_emv w.heap.size _ _ hr ?_ ?_); exact rfl) | ((with_reducible refine ld_ep w.heap.size _ hr ?_ ?_ ?_); exact rfl; exact rfl) | (go_at_call 61; (with_reducible refine (HB.out _ _ hM hA).mono ?_); rintro e W2 ⟨rfl, O2, hM2, hW2⟩; replace hr := hW2.row hr (hF.at 0 (by omega)); replace hq := hW2.row hq (hF.at 1 (by omega)); replace hA := hA.went hG hW2; replace hF := hF.went hW2 hS; replace hS := Nat.le_trans hS hW2.size; replace hW := hW.trans hW2; replace hB := Nat.le_trans hB hW2.size; replace hM := hM2; clear hM2 hW2) | ((with_reducible refine st_efr w.heap.size _ (m32 (s.fr + n)) _ hr ?_ ?_ ?_); exact rfl; exact rfl; intro W hnew hoo; replace hq := hq.only hoo (by omega); replace hM := hM.only hoo (hF.at 0 (by omega)); replace hA := hA.only2 hoo (by omega); replace hW := hW.only hoo (by omega) (by omega); replace hS := (show w.heap.size + 2 ≤ W.heap.size by rw [hoo.size]; exact hS); replace hB := (show B ≤ W.heap.size by rw [hoo.size]; exact hB); replace hr := hnew) | ((with_reducible refine st_ett w.heap.size _ (m32 (s.tt + n)) _ hr ?_ ?_ ?_); exact rfl; exact rfl; intro W hnew hoo; replace hq := hq.only hoo (by omega); replace hM := hM.only hoo (hF.at 0 (by omega)); replace hA := hA.only2 hoo (by omega); replace hW := hW.only hoo (by omega) (by omega); replace hS := (show w.heap.size + 2 ≤ W.heap.size by rw [hoo.size]; exact hS); replace hB := (show B ≤ W.heap.size by rw [hoo.size]; exact hB); replace hr := hnew) | ((with_reducible refine st_elf w.heap.size _ (s.lf - n) _ hr ?_ ?_ ?_); exact rfl; exact rfl; intro W hnew hoo; replace hq := hq.only hoo (by omega); replace hM := hM.only hoo (hF.at 0 (by omega)); replace hA := hA.only2 hoo (by omega); replace hW := hW.only hoo (by omega) (by omega); replace hS := (show w.heap.size + 2 ≤ W.heap.size by rw [hoo.size]; exact hS); replace hB := (show B ≤ W.heap.size by rw [hoo.size]; exact hB); replace hr := hnew) | ((with_reducible refine st_emv w.heap.size _ (m32 (s.mv + n)) _ hr ?_ ?_ ?_); exact rfl; exact rfl; intro W hnew hoo; replace hq := hq.only hoo (by omega); replace hM := hM.only hoo (hF.at 0 (by omega)); replace hA := hA.only2 hoo (by omega); replace hW := hW.only hoo (by omega) (by omega); replace hS := (show w.heap.size + 2 ≤ W.heap.size by rw [hoo.size]; exact hS); replace hB := (show B ≤ W.heap.size by rw [hoo.size]; exact hB); replace hr := hnew) | ((with_reducible refine st_ep (w.heap.size + 1) _ ({ s with fr := m32 (s.fr + n), tt := m32 (s.tt + n), lf := s.lf - n, mv := m32 (s.mv + n) } : E) hq ?_ ?_ ?_); exact rfl; exact rfl; intro W hnew hoo; replace hr := hr.only hoo (by omega); replace hM := hM.only hoo (hF.at 1 (by omega)); replace hA := hA.only2 hoo (by omega); replace hW := hW.only hoo (by omega) (by omega); replace hS := (show w.heap.size + 2 ≤ W.heap.size by rw [hoo.size]; exact hS); replace hB := (show B ≤ W.heap.size by rw [hoo.size]; exact hB); replace hq := hnew))
  refine bodyPost_ret (results_cell_row Tryd.results34 _ _ (w.heap.size + 1) _ _ _ _ rfl hq Tryd.underlying29 rfl size_ep) rfl ?_
  exact ⟨rfl, _, hM, hW⟩
set_option maxHeartbeats 2000000 in
theorem move_end {w : World} (s : E) (ok : s.Ok) {B b p c : Nat} {f : Nat → Nat} {O : Nat → Prop} (h : RamB w B b p f c O) (hA : AreasAt w) (hG : 1 < B) (hl : 1 ≤ s.lf) (h0 : canE s p = true) (hc : c ≤ 1000000) (h1 : ¬ burst s < s.lf) (h2 : s.nx = 0) : Calls Tryd.prog 34 #[.agg s.cells, .pointer (some ⟨b, 0, none⟩)] w fun e w' => e = .returned (.agg (moveE s p).cells) ∧ ∃ O', RamB w' B b p (wroteF f (s.tt - 2147483648) (cutF f (s.fr - 2147483648) (burst s))) (c + 1) O' ∧ Went B O O' w w' := by
  have hGw : 1 < w.heap.size := Nat.lt_of_lt_of_le hG h.base
  have hBw := h.base
  obtain ⟨hn0, hn64, hnl⟩ := burst_le hl
  obtain ⟨n, hn⟩ : ∃ n, burst s = n := ⟨_, rfl⟩
  have hmin : min (s.lf : Int) 64 = (n : Int) := by rw [← hn]; unfold burst; split <;> omega
  obtain ⟨F1, hF1⟩ : ∃ g, g = wroteF f (s.tt - 2147483648) (cutF f (s.fr - 2147483648) (burst s)) := ⟨_, rfl⟩
  rw [← hF1]
  have HV : moveE s p = endE ({ s with fr := m32 (s.fr + n), tt := m32 (s.tt + n), lf := s.lf - n, mv := m32 (s.mv + n) } : E) 2 := by
    unfold moveE; rw [if_neg (by rw [h0]; decide), if_neg (by omega), if_pos h2]; unfold onE; rw [hn]
  rw [HV]; clear HV
  have HB : Hid (∀ W O1, RamB W B b p f c O1 → AreasAt W → Calls Tryd.prog 61 #[.pointer (some ⟨b, 0, none⟩), .int .u32 (s.fr : Nat), .int .u32 (s.tt : Nat), .int .u32 (n : Nat)] W fun e w' => e = .returned .nilIface ∧ ∃ O', RamB w' B b p F1 (c + 1) O' ∧ Went B O1 O' W w') := hide (fun W O1 hM hA => by
    rw [← hn]
    rw [hF1]
    unfold canE at h0
    rw [Bool.and_eq_true] at h0
    exact mb_ok hM hA hG s.fr s.tt (burst s) ok.fr ok.tt hn0 hn64 h0.1 h0.2 hc)
  have e1 : ((s.fr : Int) + (n : Int)) % 4294967296 = ((m32 (s.fr + n) : Nat) : Int) := add_m32 _ _
  have e2 : ((s.tt : Int) + (n : Int)) % 4294967296 = ((m32 (s.tt + n) : Nat) : Int) := add_m32 _ _
  have e4 : ((s.mv : Int) + (n : Int)) % 4294967296 = ((m32 (s.mv + n) : Nat) : Int) := add_m32 _ _
  have e3 : ((s.lf : Int) - (n : Int)) = ((s.lf - n : Nat) : Int) := by omega
  have e3m : ((s.lf : Int) - (n : Int)) % 4294967296 = ((s.lf - n : Nat) : Int) := by have := ok.lf; omega
  have t1 : s.lf - n = 0 := by omega
  have t1i : decide ((0 : Int) < ((s.lf - n : Nat) : Int)) = false := by simp; omega
  have t1n : decide (0 < s.lf - n) = false := by simp; omega
  clear t1
  have t2 : ((s.nx : Int) == 0) = true := (castq s.nx 0).trans (by simp [h2])
  clear h2
  clear h0 hF1 hc
  have HE : Hid (∀ (s : E) (w : World), Calls Tryd.prog 62 #[.agg s.cells, .int .u32 2] w fun e w' => e = .returned (.agg (endE s 2).cells) ∧ Below w.heap.size w w') := hide (fun s w => end_any s 2 w)
  go_enter Tryd.func34, Tryd.ntmps34
  go_wp2_with (first | ((with_reducible refine bx_ep w.heap.size s ?_ ?_ ?_); exact rfl; exact rfl; intro W hr hb hz) | ((with_reducible refine al_ep (w.heap.size + 1) ?_ ?_); exact hz.out; intro W hq hb' hz'; replace hr := hr.bl (hz.out ▸ hb'); replace hb := hb.trans (hb'.mono (by omega)); have hM := h.bl hb; have hF := h.far 2; have hS : w.heap.size + 2 ≤ W.heap.size := (by have := hz'.out; omega); have hB : B ≤ W.heap.size := hM.base; replace hA := hA.bl hb; have hW := Went.of (O := O) hb h.base; clear h hb hz hz' hb') | ((with_reducible refine ld_efr w.heap.size _ _ hr ?_ ?_); exact rfl) | ((with_reducible refine ld_ett w.heap.size _ _ hr ?_ ?_); exact rfl) | ((with_reducible refine ld_elf w.heap.size _ _ hr ?_ ?_); exact rfl) | ((with_reducible refine ld_enx w.heap.size _ _ hr ?_ ?_); exact rfl) | ((with_reducible refine ld_emv w.heap.size _ _ hr ?_ ?_); exact rfl) | ((with_reducible refine ld_ep w.heap.size _ hr ?_ ?_ ?_); exact rfl; exact rfl) | (go_at_call 61; (with_reducible refine (HB.out _ _ hM hA).mono ?_); rintro e W2 ⟨rfl, O2, hM2, hW2⟩; replace hr := hW2.row hr (hF.at 0 (by omega)); replace hq := hW2.row hq (hF.at 1 (by omega)); replace hA := hA.went hG hW2; replace hF := hF.went hW2 hS; replace hS := Nat.le_trans hS hW2.size; replace hW := hW.trans hW2; replace hB := Nat.le_trans hB hW2.size; replace hM := hM2; clear hM2 hW2) | ((with_reducible refine st_efr w.heap.size _ (m32 (s.fr + n)) _ hr ?_ ?_ ?_); exact rfl; exact rfl; intro W hnew hoo; replace hq := hq.only hoo (by omega); replace hM := hM.only hoo (hF.at 0 (by omega)); replace hA := hA.only2 hoo (by omega); replace hW := hW.only hoo (by omega) (by omega); replace hS := (show w.heap.size + 2 ≤ W.heap.size by rw [hoo.size]; exact hS); replace hB := (show B ≤ W.heap.size by rw [hoo.size]; exact hB); replace hr := hnew) | ((with_reducible refine st_ett w.heap.size _ (m32 (s.tt + n)) _ hr ?_ ?_ ?_); exact rfl; exact rfl; intro W hnew hoo; replace hq := hq.only hoo (by omega); replace hM := hM.only hoo (hF.at 0 (by omega)); replace hA := hA.only2 hoo (by omega); replace hW := hW.only hoo (by omega) (by omega); replace hS := (show w.heap.size + 2 ≤ W.heap.size by rw [hoo.size]; exact hS); replace hB := (show B ≤ W.heap.size by rw [hoo.size]; exact hB); replace hr := hnew) | ((with_reducible refine st_elf w.heap.size _ (s.lf - n) _ hr ?_ ?_ ?_); exact rfl; exact rfl; intro W hnew hoo; replace hq := hq.only hoo (by omega); replace hM := hM.only hoo (hF.at 0 (by omega)); replace hA := hA.only2 hoo (by omega); replace hW := hW.only hoo (by omega) (by omega); replace hS := (show w.heap.size + 2 ≤ W.heap.size by rw [hoo.size]; exact hS); replace hB := (show B ≤ W.heap.size by rw [hoo.size]; exact hB); replace hr := hnew) | ((with_reducible refine st_emv w.heap.size _ (m32 (s.mv + n)) _ hr ?_ ?_ ?_); exact rfl; exact rfl; intro W hnew hoo; replace hq := hq.only hoo (by omega); replace hM := hM.only hoo (hF.at 0 (by omega)); replace hA := hA.only2 hoo (by omega); replace hW := hW.only hoo (by omega) (by omega); replace hS := (show w.heap.size + 2 ≤ W.heap.size by rw [hoo.size]; exact hS); replace hB := (show B ≤ W.heap.size by rw [hoo.size]; exact hB); replace hr := hnew) | (go_at_call 62; (with_reducible refine (HE.out _ _).mono ?_); rintro e W ⟨rfl, hbc⟩; replace hM := hM.bl hbc; replace hW := hW.bl hbc hB; replace hA := hA.bl hbc; replace hB := Nat.le_trans hB hbc.size; replace hS := Nat.le_trans hS hbc.size; replace hr := hr.bl hbc; replace hq := hq.bl hbc; (try replace ho := ho.bl hbc)) | ((with_reducible refine st_ep (w.heap.size + 1) _ (endE ({ s with fr := m32 (s.fr + n), tt := m32 (s.tt + n), lf := s.lf - n, mv := m32 (s.mv + n) } : E) 2) hq ?_ ?_ ?_); exact rfl; exact rfl; intro W hnew hoo; replace hr := hr.only hoo (by omega); replace hM := hM.only hoo (hF.at 1 (by omega)); replace hA := hA.only2 hoo (by omega); replace hW := hW.only hoo (by omega) (by omega); replace hS := (show w.heap.size + 2 ≤ W.heap.size by rw [hoo.size]; exact hS); replace hB := (show B ≤ W.heap.size by rw [hoo.size]; exact hB); replace hq := hnew))
  refine bodyPost_ret (results_cell_row Tryd.results34 _ _ (w.heap.size + 1) _ _ _ _ rfl hq Tryd.underlying29 rfl size_ep) rfl ?_
  exact ⟨rfl, _, hM, hW⟩
set_option maxHeartbeats 2000000 in
theorem move_next {w : World} (s : E) (ok : s.Ok) {B b p c : Nat} {f : Nat → Nat} {O : Nat → Prop} (h : RamB w B b p f c O) (hA : AreasAt w) (hG : 1 < B) (hl : 1 ≤ s.lf) (h0 : canE s p = true) (hc : c ≤ 1000000) (h1 : ¬ burst s < s.lf) (h2 : s.nx ≠ 0) : Calls Tryd.prog 34 #[.agg s.cells, .pointer (some ⟨b, 0, none⟩)] w fun e w' => e = .returned (.agg (moveE s p).cells) ∧ ∃ O', RamB w' B b p (wroteF f (s.tt - 2147483648) (cutF f (s.fr - 2147483648) (burst s))) (c + 1) O' ∧ Went B O O' w w' := by
  have hGw : 1 < w.heap.size := Nat.lt_of_lt_of_le hG h.base
  have hBw := h.base
  obtain ⟨hn0, hn64, hnl⟩ := burst_le hl
  obtain ⟨n, hn⟩ : ∃ n, burst s = n := ⟨_, rfl⟩
  have hmin : min (s.lf : Int) 64 = (n : Int) := by rw [← hn]; unfold burst; split <;> omega
  obtain ⟨F1, hF1⟩ : ∃ g, g = wroteF f (s.tt - 2147483648) (cutF f (s.fr - 2147483648) (burst s)) := ⟨_, rfl⟩
  rw [← hF1]
  have HV : moveE s p = noOrd ({ s with pl := s.nx, fr := m32 (s.fr + n), tt := m32 (s.tt + n), lf := s.lf - n, mv := m32 (s.mv + n) } : E) := by
    unfold moveE; rw [if_neg (by rw [h0]; decide), if_neg (by omega), if_neg h2]; unfold onE; rw [hn]
  rw [HV]; clear HV
  have HB : Hid (∀ W O1, RamB W B b p f c O1 → AreasAt W → Calls Tryd.prog 61 #[.pointer (some ⟨b, 0, none⟩), .int .u32 (s.fr : Nat), .int .u32 (s.tt : Nat), .int .u32 (n : Nat)] W fun e w' => e = .returned .nilIface ∧ ∃ O', RamB w' B b p F1 (c + 1) O' ∧ Went B O1 O' W w') := hide (fun W O1 hM hA => by
    rw [← hn]
    rw [hF1]
    unfold canE at h0
    rw [Bool.and_eq_true] at h0
    exact mb_ok hM hA hG s.fr s.tt (burst s) ok.fr ok.tt hn0 hn64 h0.1 h0.2 hc)
  have e1 : ((s.fr : Int) + (n : Int)) % 4294967296 = ((m32 (s.fr + n) : Nat) : Int) := add_m32 _ _
  have e2 : ((s.tt : Int) + (n : Int)) % 4294967296 = ((m32 (s.tt + n) : Nat) : Int) := add_m32 _ _
  have e4 : ((s.mv : Int) + (n : Int)) % 4294967296 = ((m32 (s.mv + n) : Nat) : Int) := add_m32 _ _
  have e3 : ((s.lf : Int) - (n : Int)) = ((s.lf - n : Nat) : Int) := by omega
  have e3m : ((s.lf : Int) - (n : Int)) % 4294967296 = ((s.lf - n : Nat) : Int) := by have := ok.lf; omega
  have t1 : s.lf - n = 0 := by omega
  have t1i : decide ((0 : Int) < ((s.lf - n : Nat) : Int)) = false := by simp; omega
  have t1n : decide (0 < s.lf - n) = false := by simp; omega
  clear t1
  have t2 : ((s.nx : Int) == 0) = false := (castq s.nx 0).trans (by simp [h2])
  clear h2
  clear h0 hF1 hc
  have HE := hide (fun s w => wo_any s w)
  go_enter Tryd.func34, Tryd.ntmps34
  go_wp2_with (first | ((with_reducible refine bx_ep w.heap.size s ?_ ?_ ?_); exact rfl; exact rfl; intro W hr hb hz) | ((with_reducible refine al_ep (w.heap.size + 1) ?_ ?_); exact hz.out; intro W hq hb' hz'; replace hr := hr.bl (hz.out ▸ hb'); replace hb := hb.trans (hb'.mono (by omega)); have hM := h.bl hb; have hF := h.far 2; have hS : w.heap.size + 2 ≤ W.heap.size := (by have := hz'.out; omega); have hB : B ≤ W.heap.size := hM.base; replace hA := hA.bl hb; have hW := Went.of (O := O) hb h.base; clear h hb hz hz' hb') | ((with_reducible refine ld_efr w.heap.size _ _ hr ?_ ?_); exact rfl) | ((with_reducible refine ld_ett w.heap.size _ _ hr ?_ ?_); exact rfl) | ((with_reducible refine ld_elf w.heap.size _ _ hr ?_ ?_); exact rfl) | ((with_reducible refine ld_enx w.heap.size _ _ hr ?_ ?_); exact rfl) | ((with_reducible refine ld_emv w.heap.size _ _ hr ?_ ?_); exact rfl) | ((with_reducible refine ld_ep w.heap.size _ hr ?_ ?_ ?_); exact rfl; exact rfl) | (go_at_call 61; (with_reducible refine (HB.out _ _ hM hA).mono ?_); rintro e W2 ⟨rfl, O2, hM2, hW2⟩; replace hr := hW2.row hr (hF.at 0 (by omega)); replace hq := hW2.row hq (hF.at 1 (by omega)); replace hA := hA.went hG hW2; replace hF := hF.went hW2 hS; replace hS := Nat.le_trans hS hW2.size; replace hW := hW.trans hW2; replace hB := Nat.le_trans hB hW2.size; replace hM := hM2; clear hM2 hW2) | ((with_reducible refine st_efr w.heap.size _ (m32 (s.fr + n)) _ hr ?_ ?_ ?_); exact rfl; exact rfl; intro W hnew hoo; replace hq := hq.only hoo (by omega); replace hM := hM.only hoo (hF.at 0 (by omega)); replace hA := hA.only2 hoo (by omega); replace hW := hW.only hoo (by omega) (by omega); replace hS := (show w.heap.size + 2 ≤ W.heap.size by rw [hoo.size]; exact hS); replace hB := (show B ≤ W.heap.size by rw [hoo.size]; exact hB); replace hr := hnew) | ((with_reducible refine st_ett w.heap.size _ (m32 (s.tt + n)) _ hr ?_ ?_ ?_); exact rfl; exact rfl; intro W hnew hoo; replace hq := hq.only hoo (by omega); replace hM := hM.only hoo (hF.at 0 (by omega)); replace hA := hA.only2 hoo (by omega); replace hW := hW.only hoo (by omega) (by omega); replace hS := (show w.heap.size + 2 ≤ W.heap.size by rw [hoo.size]; exact hS); replace hB := (show B ≤ W.heap.size by rw [hoo.size]; exact hB); replace hr := hnew) | ((with_reducible refine st_elf w.heap.size _ (s.lf - n) _ hr ?_ ?_ ?_); exact rfl; exact rfl; intro W hnew hoo; replace hq := hq.only hoo (by omega); replace hM := hM.only hoo (hF.at 0 (by omega)); replace hA := hA.only2 hoo (by omega); replace hW := hW.only hoo (by omega) (by omega); replace hS := (show w.heap.size + 2 ≤ W.heap.size by rw [hoo.size]; exact hS); replace hB := (show B ≤ W.heap.size by rw [hoo.size]; exact hB); replace hr := hnew) | ((with_reducible refine st_emv w.heap.size _ (m32 (s.mv + n)) _ hr ?_ ?_ ?_); exact rfl; exact rfl; intro W hnew hoo; replace hq := hq.only hoo (by omega); replace hM := hM.only hoo (hF.at 0 (by omega)); replace hA := hA.only2 hoo (by omega); replace hW := hW.only hoo (by omega) (by omega); replace hS := (show w.heap.size + 2 ≤ W.heap.size by rw [hoo.size]; exact hS); replace hB := (show B ≤ W.heap.size by rw [hoo.size]; exact hB); replace hr := hnew) | ((with_reducible refine st_epl w.heap.size _ s.nx _ hr ?_ ?_ ?_); exact rfl; exact rfl; intro W hnew hoo; replace hq := hq.only hoo (by omega); replace hM := hM.only hoo (hF.at 0 (by omega)); replace hA := hA.only2 hoo (by omega); replace hW := hW.only hoo (by omega) (by omega); replace hS := (show w.heap.size + 2 ≤ W.heap.size by rw [hoo.size]; exact hS); replace hB := (show B ≤ W.heap.size by rw [hoo.size]; exact hB); replace hr := hnew) | (go_at_call 56; (with_reducible refine (HE.out _ _).mono ?_); rintro e W ⟨rfl, hbc⟩; replace hM := hM.bl hbc; replace hW := hW.bl hbc hB; replace hA := hA.bl hbc; replace hB := Nat.le_trans hB hbc.size; replace hS := Nat.le_trans hS hbc.size; replace hr := hr.bl hbc; replace hq := hq.bl hbc; (try replace ho := ho.bl hbc)) | ((with_reducible refine st_ep (w.heap.size + 1) _ (noOrd ({ s with pl := s.nx, fr := m32 (s.fr + n), tt := m32 (s.tt + n), lf := s.lf - n, mv := m32 (s.mv + n) } : E)) hq ?_ ?_ ?_); exact rfl; exact rfl; intro W hnew hoo; replace hr := hr.only hoo (by omega); replace hM := hM.only hoo (hF.at 1 (by omega)); replace hA := hA.only2 hoo (by omega); replace hW := hW.only hoo (by omega) (by omega); replace hS := (show w.heap.size + 2 ≤ W.heap.size by rw [hoo.size]; exact hS); replace hB := (show B ≤ W.heap.size by rw [hoo.size]; exact hB); replace hq := hnew))
  refine bodyPost_ret (results_cell_row Tryd.results34 _ _ (w.heap.size + 1) _ _ _ _ rfl hq Tryd.underlying29 rfl size_ep) rfl ?_
  exact ⟨rfl, _, hM, hW⟩
theorem move_any {w : World} (s : E) (ok : s.Ok) {B b p c : Nat} {f : Nat → Nat} {O : Nat → Prop} (h : RamB w B b p f c O) (hA : AreasAt w) (hG : 1 < B) (hl : 1 ≤ s.lf) (hc : c ≤ 1000000) : Calls Tryd.prog 34 #[.agg s.cells, .pointer (some ⟨b, 0, none⟩)] w fun e w' => e = .returned (.agg (moveE s p).cells) ∧ ∃ O', RamB w' B b p (moveF s f p) (c + 1) O' ∧ Went B O O' w w' := by
  cases h0 : canE s p with
  | false =>
    refine (move_no s ok h hA hG hl h0).mono ?_
    rintro e w' ⟨rfl, O', h1, h2⟩
    refine ⟨rfl, O', ?_, h2⟩
    unfold moveF; rw [if_pos h0]; exact h1.more (by omega)
  | true =>
    have hF : moveF s f p = wroteF f (s.tt - 2147483648) (cutF f (s.fr - 2147483648) (burst s)) := by unfold moveF; rw [if_neg (by rw [h0]; decide)]
    rw [hF]
    by_cases h1 : burst s < s.lf
    · exact move_on s ok h hA hG hl h0 hc h1
    · by_cases h2 : s.nx = 0
      · exact move_end s ok h hA hG hl h0 hc h1 h2
      · exact move_next s ok h hA hG hl h0 hc h1 h2
end Go.Proofs.YtalcgipcephnnaaDoor
