/-
  What hart.control answers.
-/
import Derived.Test.YtchjhpeogdkbmaaDoorTk
import Derived.Test.YtchjhpeogdkbmaaDoorHaCtlA
namespace Go.Proofs.YtchjhpeogdkbmaaDoor
open Go.RowKit
set_option linter.unusedVariables false

set_option maxHeartbeats 2000000 in
theorem control_52rA (h : H) (ok : h.Ok) (rd s1 s2 : Nat) (im cs : Int) (hrd : rd < 32) (h1 : s1 < 32) (v l : Nat) (hl : l < 4294967296) (hR : readN h.c cs l = none) (w : World) :
    Calls Tryd.prog 26 #[.agg h.cells, .agg (I6.cells ⟨52, (rd : Nat), (s1 : Nat), (s2 : Nat), im, cs⟩), .int .u32 v, .int .u32 l] w fun e w' => e = .returned (.agg (trapH h 2 v).cells) ∧ Below w.heap.size w w' := by
  have b1 : (0 : Int) ≤ s1 := by omega
  have b2 : (s1 : Int) < 32 := by omega
  have HR := hide (fun w => cs_read_bl h.c ok.c cs l hl w)
  rw [hR] at HR
  simp only [readV] at HR
  clear hR
  have HT := hide (fun w => trap_any h ok 2 v (by decide) w)
  rw [show (((2 : Nat) : Int)) = 2 from rfl] at HT
  go_enter Tryd.func26, Tryd.ntmps26
  go_wp2_with (first | ((with_reducible refine bx_h w.heap.size h ?_ ?_ ?_); exact rfl; exact rfl; intro W hr hb hz) | ((with_reducible refine bx_i (w.heap.size + 1) ⟨52, (rd : Nat), (s1 : Nat), (s2 : Nat), im, cs⟩ ?_ ?_ ?_); exact hz.out; exact rfl; intro W hi hb' hz'; obtain ⟨hr, hb⟩ := an1 hz hb' hr hb; replace hz := hz') | ((with_reducible refine al_h (w.heap.size + 2) ?_ ?_); exact hz.out; intro W hq hb' hz'; obtain ⟨hr, hi, hb⟩ := an2 hz hb' hr hi hb; replace hz := hz'; obtain ⟨qa, qb, qc⟩ := q3 hi) | ((with_reducible refine al_c (w.heap.size + 3) ?_ ?_); exact hz.out; intro W hc2 hb' hz'; obtain ⟨hr, hi, hq, hb⟩ := an3 hz hb' hr hi hq hb; replace hz := hz'; obtain ⟨qa, qb, qc⟩ := q3 hi) | ((with_reducible refine st_s (w.heap.size + 3) _ h.c hc2 ?_ ?_ ?_); exact rfl; exact rfl; intro W hnew ho; obtain ⟨hr, hi, hq, hb⟩ := on3 ho hr hi hq hb; replace hc2 := hnew; obtain ⟨qa, qb, qc⟩ := q3 hi) | (go_at_call 52; refine (HR.out _).mono ?_; rintro e W ⟨rfl, hbc⟩; obtain ⟨hr, hi, hq, hc2, hb⟩ := bl4 hbc hr hi hq hc2 hb; obtain ⟨qa, qb, qc⟩ := q3 hi) | ((with_reducible refine ld_h w.heap.size _ hr ?_ ?_); exact rfl) | ((with_reducible refine ld_c w.heap.size _ hr ?_ ?_); exact rfl) | ((with_reducible refine ld_s (w.heap.size + 3) _ hc2 ?_ ?_); exact rfl) | ((with_reducible refine ld_op (w.heap.size + 1) _ hi ?_ ?_); exact rfl) | ((with_reducible refine ld_rd (w.heap.size + 1) _ hi ?_ ?_); exact rfl) | ((with_reducible refine ld_rs1 (w.heap.size + 1) _ hi ?_ ?_); exact rfl) | ((with_reducible refine ld_csr (w.heap.size + 1) _ hi ?_ ?_); exact rfl) | ((with_reducible refine ld_x w.heap.size s1 _ h1 hr ?_ ?_); exact rfl) | (go_at_call 22; refine (HT.out _).mono ?_; rintro e W ⟨rfl, hbc⟩; obtain ⟨hr, hi, hq, hc2, hb⟩ := bl4 hbc hr hi hq hc2 hb) | ((with_reducible refine st_h (w.heap.size + 2) _ (trapH h 2 v) hq ?_ ?_ ?_); exact rfl; exact rfl; intro W hnew ho; obtain ⟨hr, hi, hc2, hb⟩ := on3 ho hr hi hc2 hb; replace hq := hnew))
  refine bodyPost_ret (results_cell_row Tryd.results26 _ _ (w.heap.size + 2) _ _ _ _ rfl hq Tryd.underlying31 rfl size_hart) rfl ?_
  exact ⟨rfl, hb⟩

set_option maxHeartbeats 2000000 in
theorem control_52rB (h : H) (ok : h.Ok) (rd s1 s2 : Nat) (im cs : Int) (hrd : rd < 32) (h1 : s1 < 32) (v l : Nat) (hl : l < 4294967296) (h0 : s1 ≠ 0) (old : Nat) (hold : old < 4294967296) (hR : readN h.c cs l = some old) (c : S8) (k : Nat) (hW : writeN h.c cs (mixN 52 old (h.x s1)) = (c, k + 1)) (w : World) :
    Calls Tryd.prog 26 #[.agg h.cells, .agg (I6.cells ⟨52, (rd : Nat), (s1 : Nat), (s2 : Nat), im, cs⟩), .int .u32 v, .int .u32 l] w fun e w' => e = .returned (.agg (trapH h 2 v).cells) ∧ Below w.heap.size w w' := by
  have b1 : (0 : Int) ≤ s1 := by omega
  have b2 : (s1 : Int) < 32 := by omega
  have t2 : ((s1 : Int) != 0) = true := by simp; omega
  clear h0
  have HR := hide (fun w => cs_read_bl h.c ok.c cs l hl w)
  rw [hR] at HR
  simp only [readV] at HR
  clear hR
  have HM : Hid (∀ z : Int, z = (((h.x s1) : Nat) : Int) → ∀ w, Calls Tryd.prog 54 #[.int .i64 52, .int .u32 old, .int .u32 z] w fun e w' => e = .returned (.int .u32 ((mixN 52 old (h.x s1)) : Nat)) ∧ w' = w) := hide (fun z hz w => by rw [hz]; exact mixed_52 old (h.x s1) hold (ok.x s1) w)
  have HW := hide (fun w => cs_write_bl h.c ok.c cs (mixN 52 old (h.x s1)) (mixN_lt 52 hold (ok.x s1)) w)
  rw [hW] at HW
  simp only [errW] at HW
  clear hW
  generalize (mixN 52 old (h.x s1)) = M at HM HW
  have HT := hide (fun w => trap_any h ok 2 v (by decide) w)
  rw [show (((2 : Nat) : Int)) = 2 from rfl] at HT
  go_enter Tryd.func26, Tryd.ntmps26
  go_wp2_with (first | ((with_reducible refine bx_h w.heap.size h ?_ ?_ ?_); exact rfl; exact rfl; intro W hr hb hz) | ((with_reducible refine bx_i (w.heap.size + 1) ⟨52, (rd : Nat), (s1 : Nat), (s2 : Nat), im, cs⟩ ?_ ?_ ?_); exact hz.out; exact rfl; intro W hi hb' hz'; obtain ⟨hr, hb⟩ := an1 hz hb' hr hb; replace hz := hz') | ((with_reducible refine al_h (w.heap.size + 2) ?_ ?_); exact hz.out; intro W hq hb' hz'; obtain ⟨hr, hi, hb⟩ := an2 hz hb' hr hi hb; replace hz := hz'; obtain ⟨qa, qb, qc⟩ := q3 hi) | ((with_reducible refine al_c (w.heap.size + 3) ?_ ?_); exact hz.out; intro W hc2 hb' hz'; obtain ⟨hr, hi, hq, hb⟩ := an3 hz hb' hr hi hq hb; replace hz := hz'; obtain ⟨qa, qb, qc⟩ := q3 hi) | ((with_reducible refine st_s (w.heap.size + 3) _ h.c hc2 ?_ ?_ ?_); exact rfl; exact rfl; intro W hnew ho; obtain ⟨hr, hi, hq, hb⟩ := on3 ho hr hi hq hb; replace hc2 := hnew; obtain ⟨qa, qb, qc⟩ := q3 hi) | (go_at_call 52; refine (HR.out _).mono ?_; rintro e W ⟨rfl, hbc⟩; obtain ⟨hr, hi, hq, hc2, hb⟩ := bl4 hbc hr hi hq hc2 hb; obtain ⟨qa, qb, qc⟩ := q3 hi) | ((with_reducible refine ld_h w.heap.size _ hr ?_ ?_); exact rfl) | ((with_reducible refine ld_c w.heap.size _ hr ?_ ?_); exact rfl) | ((with_reducible refine ld_s (w.heap.size + 3) _ hc2 ?_ ?_); exact rfl) | ((with_reducible refine ld_op (w.heap.size + 1) _ hi ?_ ?_); exact rfl) | ((with_reducible refine ld_rd (w.heap.size + 1) _ hi ?_ ?_); exact rfl) | ((with_reducible refine ld_rs1 (w.heap.size + 1) _ hi ?_ ?_); exact rfl) | ((with_reducible refine ld_csr (w.heap.size + 1) _ hi ?_ ?_); exact rfl) | ((with_reducible refine ld_x w.heap.size s1 _ h1 hr ?_ ?_); exact rfl))
  refine wp_region_held_drew (S := (fun V => RowAt V w.heap.size h.cells 31 ∧ RowAt V (w.heap.size + 1) (I6.cells ⟨52, (rd : Nat), (s1 : Nat), (s2 : Nat), im, cs⟩) 61 ∧ (RowAt V (w.heap.size + 3) h.c.cells 29 ∨ RowAt V (w.heap.size + 3) c.cells 29) ∧ Below w.heap.size w V)) (by kernel_rfl) ?_ (fun hHeld => ?_)
  · exact ⟨hr.dr, hi.dr, Or.inl hc2.dr, hb.drew⟩
  replace hq := hq.dr
  replace hc2 := hc2.dr
  refine tkO 1 (.pointer (some ⟨w.heap.size + 1, 5, none⟩)) (by simp only [gT, gZ, gS]; rfl) (puO (by (intro w hSw; (try dsimp only at hSw); go_simp))) ?_
  simp only [Act.put, pA, pZ, pS]
  refine tkO 2 (.int .i64 cs) (by simp only [gT, gZ, gS]; rfl) (y_int (w.heap.size + 1) 5 _ (fun V hV => (hV.2.1.cell 5).trans rfl) rfl) ?_
  simp only [Act.put, pA, pZ, pS]
  refine tkO 3 (.pointer (some ⟨w.heap.size + 1, 0, none⟩)) (by simp only [gT, gZ, gS]; rfl) (puO (by (intro w hSw; (try dsimp only at hSw); go_simp))) ?_
  simp only [Act.put, pA, pZ, pS]
  refine tkO 4 (.int .i64 52) (by simp only [gT, gZ, gS]; rfl) (y_int (w.heap.size + 1) 0 _ (fun V hV => (hV.2.1.cell 0).trans rfl) rfl) ?_
  simp only [Act.put, pA, pZ, pS]
  refine tkO 5 (.int .u32 (old : Nat)) (by simp only [gT, gZ, gS]; rfl) (puO (by (intro w hSw; (try dsimp only at hSw); go_simp))) ?_
  simp only [Act.put, pA, pZ, pS]
  refine tkO 6 (.int .u32 ((h.x s1) : Nat)) (by simp only [gT, gZ, gS]; rfl) (puO (by (intro w hSw; (try dsimp only at hSw); go_simp <;> omega))) ?_
  simp only [Act.put, pA, pZ, pS]
  refine wpAnyH_ready (rs := [0, 7]) (by kernel_rfl) (by simp) ?_
  refine AllReadyH.cons (o := ?oi95) ?hi95 (fun K hK => ?b95) (AllReadyH.cons (o := ?oi96) ?hi96 (fun K hK => ?b96) AllReadyH.nil)
  case hi95 => (simp only [List.getElem?_toArray, List.getElem?_cons_zero]; rfl)
  case hi96 => (simp only [List.getElem?_toArray, List.getElem?_cons_zero, List.getElem?_cons_succ]; rfl)
  case b95 =>
    rw [if_pos (by rfl)]
    (with_reducible refine w_ld_s (w.heap.size + 3) h.c hc2 ?_ ?_)
    · exact rfl
    simp only [Act.put, pA, pZ, pS]
    refine hK.out _ _ ?_ (fun hHeld => ?_)
    · exact hHeld
    clear hK K
    refine skO 7 (by simp only [gT, gZ, gS]; rfl) (fun K hK => ?_)
    go_simp
    refine (HM.out _ ?_ _).mono ?_
    · first | rfl | omega
    rintro e V ⟨rfl, rfl⟩
    go_simp
    refine hK.out _ _ ?_ (fun hHeld => ?_)
    · exact hHeld
    clear hK K
    refine skO 8 (by simp only [gT, gZ, gS]; rfl) (fun K hK => ?_)
    go_simp
    refine (HW.out _).mono ?_
    rintro e V ⟨rfl, hbc⟩
    replace hr := hHeld.1.bl hbc
    replace hi := hHeld.2.1.bl hbc
    replace hb := below_bl rfl hHeld.2.2.2 hbc
    replace hq := hq.bl hbc
    replace hc2 := hc2.bl hbc
    clear hHeld
    go_simp
    refine hK.out _ _ ?_ (fun hHeld => ?_)
    · exact ⟨hr, hi, Or.inl hc2, hb⟩
    clear hK K
    refine tkO 9 (.tuple #[.agg c.cells, (.iface 89 (.int .i64 ((k : Int) + 1)))]) (by simp only [gT, gZ, gS]; rfl) (puO (by (intro w hSw; (try dsimp only at hSw); go_simp))) ?_
    simp only [Act.put, pA, pZ, pS]
    refine tkO 10 (.agg c.cells) (by simp only [gT, gZ, gS]; rfl) (puO (by (intro w hSw; (try dsimp only at hSw); go_simp))) ?_
    simp only [Act.put, pA, pZ, pS]
    refine tkO 11 ((.iface 89 (.int .i64 ((k : Int) + 1)))) (by simp only [gT, gZ, gS]; rfl) (puO (by (intro w hSw; (try dsimp only at hSw); go_simp))) ?_
    simp only [Act.put, pA, pZ, pS]
    refine skO 12 (by simp only [gT, gZ, gS]; rfl) (fun K hK => ?_)
    rw [if_pos (by rfl)]
    (with_reducible refine s_s (w.heap.size + 3) _ c hc2 ?_ ?_ ?_)
    · exact rfl
    · exact rfl
    intro W hnew ho
    replace hr := hr.only ho (by omega)
    replace hi := hi.only ho (by omega)
    replace hq := hq.only ho (by omega)
    replace hb := ho.bel _ _ (by omega) hb
    replace hc2 := hnew
    clear hHeld
    refine hK.out _ _ ?_ (fun hHeld => ?_)
    · exact ⟨hr, hi, Or.inr hc2, hb⟩
    clear hK K
    refine tkO 13 ((.iface 89 (.int .i64 ((k : Int) + 1)))) (by simp only [gT, gZ, gS]; rfl) (puO (by (intro w hSw; (try dsimp only at hSw); go_simp))) ?_
    simp only [Act.put, pA, pZ, pS]
    refine wpAnyH_done (by kernel_rfl) ?_ _
    have qa : W.cell? ⟨w.heap.size + 1, 0, none⟩ = some (.int .i64 52) := hi.cell 0
    have qb : W.cell? ⟨w.heap.size + 1, 1, none⟩ = some (.int .i64 (rd : Nat)) := hi.cell 1
    have qc : W.cell? ⟨w.heap.size + 1, 2, none⟩ = some (.int .i64 (s1 : Nat)) := hi.cell 2
    go_wp2_with (first | ((with_reducible refine ld_h w.heap.size _ hr ?_ ?_); exact rfl) | ((with_reducible refine ld_c w.heap.size _ hr ?_ ?_); exact rfl) | ((with_reducible refine ld_s (w.heap.size + 3) _ hc2 ?_ ?_); exact rfl) | ((with_reducible refine ld_op (w.heap.size + 1) _ hi ?_ ?_); exact rfl) | ((with_reducible refine ld_rd (w.heap.size + 1) _ hi ?_ ?_); exact rfl) | ((with_reducible refine ld_rs1 (w.heap.size + 1) _ hi ?_ ?_); exact rfl) | ((with_reducible refine ld_csr (w.heap.size + 1) _ hi ?_ ?_); exact rfl) | ((with_reducible refine ld_x w.heap.size s1 _ h1 hr ?_ ?_); exact rfl) | (go_at_call 22; refine (HT.out _).mono ?_; rintro e W ⟨rfl, hbc⟩; obtain ⟨hr, hi, hq, hc2, hb⟩ := bl4 hbc hr hi hq hc2 hb) | ((with_reducible refine st_h (w.heap.size + 2) _ (trapH h 2 v) hq ?_ ?_ ?_); exact rfl; exact rfl; intro W hnew ho; obtain ⟨hr, hi, hc2, hb⟩ := on3 ho hr hi hc2 hb; replace hq := hnew))
    refine bodyPost_ret (results_cell_row Tryd.results26 _ _ (w.heap.size + 2) _ _ _ _ rfl hq Tryd.underlying31 rfl size_hart) rfl ?_
    exact ⟨rfl, hb⟩
  case b96 =>
    go_simp
    refine (HM.out _ ?_ _).mono ?_
    · first | rfl | omega
    rintro e V ⟨rfl, rfl⟩
    go_simp
    refine hK.out _ _ ?_ (fun hHeld => ?_)
    · exact hHeld
    clear hK K
    refine skO 0 (by simp only [gT, gZ]; rfl) (fun K hK => ?_)
    rw [if_pos (by rfl)]
    (with_reducible refine w_ld_s (w.heap.size + 3) h.c hc2 ?_ ?_)
    · exact rfl
    simp only [Act.put, pA, pZ, pS]
    refine hK.out _ _ ?_ (fun hHeld => ?_)
    · exact hHeld
    clear hK K
    refine skO 8 (by simp only [gT, gZ, gS]; rfl) (fun K hK => ?_)
    go_simp
    refine (HW.out _).mono ?_
    rintro e V ⟨rfl, hbc⟩
    replace hr := hHeld.1.bl hbc
    replace hi := hHeld.2.1.bl hbc
    replace hb := below_bl rfl hHeld.2.2.2 hbc
    replace hq := hq.bl hbc
    replace hc2 := hc2.bl hbc
    clear hHeld
    go_simp
    refine hK.out _ _ ?_ (fun hHeld => ?_)
    · exact ⟨hr, hi, Or.inl hc2, hb⟩
    clear hK K
    refine tkO 9 (.tuple #[.agg c.cells, (.iface 89 (.int .i64 ((k : Int) + 1)))]) (by simp only [gT, gZ, gS]; rfl) (puO (by (intro w hSw; (try dsimp only at hSw); go_simp))) ?_
    simp only [Act.put, pA, pZ, pS]
    refine tkO 10 (.agg c.cells) (by simp only [gT, gZ, gS]; rfl) (puO (by (intro w hSw; (try dsimp only at hSw); go_simp))) ?_
    simp only [Act.put, pA, pZ, pS]
    refine tkO 11 ((.iface 89 (.int .i64 ((k : Int) + 1)))) (by simp only [gT, gZ, gS]; rfl) (puO (by (intro w hSw; (try dsimp only at hSw); go_simp))) ?_
    simp only [Act.put, pA, pZ, pS]
    refine skO 12 (by simp only [gT, gZ, gS]; rfl) (fun K hK => ?_)
    rw [if_pos (by rfl)]
    (with_reducible refine s_s (w.heap.size + 3) _ c hc2 ?_ ?_ ?_)
    · exact rfl
    · exact rfl
    intro W hnew ho
    replace hr := hr.only ho (by omega)
    replace hi := hi.only ho (by omega)
    replace hq := hq.only ho (by omega)
    replace hb := ho.bel _ _ (by omega) hb
    replace hc2 := hnew
    clear hHeld
    refine hK.out _ _ ?_ (fun hHeld => ?_)
    · exact ⟨hr, hi, Or.inr hc2, hb⟩
    clear hK K
    refine tkO 13 ((.iface 89 (.int .i64 ((k : Int) + 1)))) (by simp only [gT, gZ, gS]; rfl) (puO (by (intro w hSw; (try dsimp only at hSw); go_simp))) ?_
    simp only [Act.put, pA, pZ, pS]
    refine wpAnyH_done (by kernel_rfl) ?_ _
    have qa : W.cell? ⟨w.heap.size + 1, 0, none⟩ = some (.int .i64 52) := hi.cell 0
    have qb : W.cell? ⟨w.heap.size + 1, 1, none⟩ = some (.int .i64 (rd : Nat)) := hi.cell 1
    have qc : W.cell? ⟨w.heap.size + 1, 2, none⟩ = some (.int .i64 (s1 : Nat)) := hi.cell 2
    go_wp2_with (first | ((with_reducible refine ld_h w.heap.size _ hr ?_ ?_); exact rfl) | ((with_reducible refine ld_c w.heap.size _ hr ?_ ?_); exact rfl) | ((with_reducible refine ld_s (w.heap.size + 3) _ hc2 ?_ ?_); exact rfl) | ((with_reducible refine ld_op (w.heap.size + 1) _ hi ?_ ?_); exact rfl) | ((with_reducible refine ld_rd (w.heap.size + 1) _ hi ?_ ?_); exact rfl) | ((with_reducible refine ld_rs1 (w.heap.size + 1) _ hi ?_ ?_); exact rfl) | ((with_reducible refine ld_csr (w.heap.size + 1) _ hi ?_ ?_); exact rfl) | ((with_reducible refine ld_x w.heap.size s1 _ h1 hr ?_ ?_); exact rfl) | (go_at_call 22; refine (HT.out _).mono ?_; rintro e W ⟨rfl, hbc⟩; obtain ⟨hr, hi, hq, hc2, hb⟩ := bl4 hbc hr hi hq hc2 hb) | ((with_reducible refine st_h (w.heap.size + 2) _ (trapH h 2 v) hq ?_ ?_ ?_); exact rfl; exact rfl; intro W hnew ho; obtain ⟨hr, hi, hc2, hb⟩ := on3 ho hr hi hc2 hb; replace hq := hnew))
    refine bodyPost_ret (results_cell_row Tryd.results26 _ _ (w.heap.size + 2) _ _ _ _ rfl hq Tryd.underlying31 rfl size_hart) rfl ?_
    exact ⟨rfl, hb⟩

set_option maxHeartbeats 2000000 in
theorem control_52rC (h : H) (ok : h.Ok) (rd s1 s2 : Nat) (im cs : Int) (hrd : rd < 32) (h1 : s1 < 32) (v l : Nat) (hl : l < 4294967296) (h0 : s1 ≠ 0) (old : Nat) (hold : old < 4294967296) (hR : readN h.c cs l = some old) (c : S8) (hc : c.Ok) (hW : writeN h.c cs (mixN 52 old (h.x s1)) = (c, 0)) (w : World) :
    Calls Tryd.prog 26 #[.agg h.cells, .agg (I6.cells ⟨52, (rd : Nat), (s1 : Nat), (s2 : Nat), im, cs⟩), .int .u32 v, .int .u32 l] w fun e w' => e = .returned (.agg (nextH (writeH (withC h c) rd old)).cells) ∧ Below w.heap.size w w' := by
  have b1 : (0 : Int) ≤ s1 := by omega
  have b2 : (s1 : Int) < 32 := by omega
  have t2 : ((s1 : Int) != 0) = true := by simp; omega
  clear h0
  have HR := hide (fun w => cs_read_bl h.c ok.c cs l hl w)
  rw [hR] at HR
  simp only [readV] at HR
  clear hR
  have HM : Hid (∀ z : Int, z = (((h.x s1) : Nat) : Int) → ∀ w, Calls Tryd.prog 54 #[.int .i64 52, .int .u32 old, .int .u32 z] w fun e w' => e = .returned (.int .u32 ((mixN 52 old (h.x s1)) : Nat)) ∧ w' = w) := hide (fun z hz w => by rw [hz]; exact mixed_52 old (h.x s1) hold (ok.x s1) w)
  have HW := hide (fun w => cs_write_bl h.c ok.c cs (mixN 52 old (h.x s1)) (mixN_lt 52 hold (ok.x s1)) w)
  rw [hW] at HW
  simp only [errW] at HW
  clear hW
  generalize (mixN 52 old (h.x s1)) = M at HM HW
  have ok' : H.Ok (withC h c) := ⟨ok.pc, ok.x, hc⟩
  have HWr := hide (fun w => write_any (withC h c) rd hrd old w)
  have HN := hide (fun w => next_any _ (writeH_ok ok' rd hold) w)
  go_enter Tryd.func26, Tryd.ntmps26
  go_wp2_with (first | ((with_reducible refine bx_h w.heap.size h ?_ ?_ ?_); exact rfl; exact rfl; intro W hr hb hz) | ((with_reducible refine bx_i (w.heap.size + 1) ⟨52, (rd : Nat), (s1 : Nat), (s2 : Nat), im, cs⟩ ?_ ?_ ?_); exact hz.out; exact rfl; intro W hi hb' hz'; obtain ⟨hr, hb⟩ := an1 hz hb' hr hb; replace hz := hz') | ((with_reducible refine al_h (w.heap.size + 2) ?_ ?_); exact hz.out; intro W hq hb' hz'; obtain ⟨hr, hi, hb⟩ := an2 hz hb' hr hi hb; replace hz := hz'; obtain ⟨qa, qb, qc⟩ := q3 hi) | ((with_reducible refine al_c (w.heap.size + 3) ?_ ?_); exact hz.out; intro W hc2 hb' hz'; obtain ⟨hr, hi, hq, hb⟩ := an3 hz hb' hr hi hq hb; replace hz := hz'; obtain ⟨qa, qb, qc⟩ := q3 hi) | ((with_reducible refine st_s (w.heap.size + 3) _ h.c hc2 ?_ ?_ ?_); exact rfl; exact rfl; intro W hnew ho; obtain ⟨hr, hi, hq, hb⟩ := on3 ho hr hi hq hb; replace hc2 := hnew; obtain ⟨qa, qb, qc⟩ := q3 hi) | (go_at_call 52; refine (HR.out _).mono ?_; rintro e W ⟨rfl, hbc⟩; obtain ⟨hr, hi, hq, hc2, hb⟩ := bl4 hbc hr hi hq hc2 hb; obtain ⟨qa, qb, qc⟩ := q3 hi) | ((with_reducible refine ld_h w.heap.size _ hr ?_ ?_); exact rfl) | ((with_reducible refine ld_c w.heap.size _ hr ?_ ?_); exact rfl) | ((with_reducible refine ld_s (w.heap.size + 3) _ hc2 ?_ ?_); exact rfl) | ((with_reducible refine ld_op (w.heap.size + 1) _ hi ?_ ?_); exact rfl) | ((with_reducible refine ld_rd (w.heap.size + 1) _ hi ?_ ?_); exact rfl) | ((with_reducible refine ld_rs1 (w.heap.size + 1) _ hi ?_ ?_); exact rfl) | ((with_reducible refine ld_csr (w.heap.size + 1) _ hi ?_ ?_); exact rfl) | ((with_reducible refine ld_x w.heap.size s1 _ h1 hr ?_ ?_); exact rfl))
  refine wp_region_held_drew (S := (fun V => RowAt V w.heap.size h.cells 31 ∧ RowAt V (w.heap.size + 1) (I6.cells ⟨52, (rd : Nat), (s1 : Nat), (s2 : Nat), im, cs⟩) 61 ∧ (RowAt V (w.heap.size + 3) h.c.cells 29 ∨ RowAt V (w.heap.size + 3) c.cells 29) ∧ Below w.heap.size w V)) (by kernel_rfl) ?_ (fun hHeld => ?_)
  · exact ⟨hr.dr, hi.dr, Or.inl hc2.dr, hb.drew⟩
  replace hq := hq.dr
  replace hc2 := hc2.dr
  refine tkO 1 (.pointer (some ⟨w.heap.size + 1, 5, none⟩)) (by simp only [gT, gZ, gS]; rfl) (puO (by (intro w hSw; (try dsimp only at hSw); go_simp))) ?_
  simp only [Act.put, pA, pZ, pS]
  refine tkO 2 (.int .i64 cs) (by simp only [gT, gZ, gS]; rfl) (y_int (w.heap.size + 1) 5 _ (fun V hV => (hV.2.1.cell 5).trans rfl) rfl) ?_
  simp only [Act.put, pA, pZ, pS]
  refine tkO 3 (.pointer (some ⟨w.heap.size + 1, 0, none⟩)) (by simp only [gT, gZ, gS]; rfl) (puO (by (intro w hSw; (try dsimp only at hSw); go_simp))) ?_
  simp only [Act.put, pA, pZ, pS]
  refine tkO 4 (.int .i64 52) (by simp only [gT, gZ, gS]; rfl) (y_int (w.heap.size + 1) 0 _ (fun V hV => (hV.2.1.cell 0).trans rfl) rfl) ?_
  simp only [Act.put, pA, pZ, pS]
  refine tkO 5 (.int .u32 (old : Nat)) (by simp only [gT, gZ, gS]; rfl) (puO (by (intro w hSw; (try dsimp only at hSw); go_simp))) ?_
  simp only [Act.put, pA, pZ, pS]
  refine tkO 6 (.int .u32 ((h.x s1) : Nat)) (by simp only [gT, gZ, gS]; rfl) (puO (by (intro w hSw; (try dsimp only at hSw); go_simp <;> omega))) ?_
  simp only [Act.put, pA, pZ, pS]
  refine wpAnyH_ready (rs := [0, 7]) (by kernel_rfl) (by simp) ?_
  refine AllReadyH.cons (o := ?oi117) ?hi117 (fun K hK => ?b117) (AllReadyH.cons (o := ?oi118) ?hi118 (fun K hK => ?b118) AllReadyH.nil)
  case hi117 => (simp only [List.getElem?_toArray, List.getElem?_cons_zero]; rfl)
  case hi118 => (simp only [List.getElem?_toArray, List.getElem?_cons_zero, List.getElem?_cons_succ]; rfl)
  case b117 =>
    rw [if_pos (by rfl)]
    (with_reducible refine w_ld_s (w.heap.size + 3) h.c hc2 ?_ ?_)
    · exact rfl
    simp only [Act.put, pA, pZ, pS]
    refine hK.out _ _ ?_ (fun hHeld => ?_)
    · exact hHeld
    clear hK K
    refine skO 7 (by simp only [gT, gZ, gS]; rfl) (fun K hK => ?_)
    go_simp
    refine (HM.out _ ?_ _).mono ?_
    · first | rfl | omega
    rintro e V ⟨rfl, rfl⟩
    go_simp
    refine hK.out _ _ ?_ (fun hHeld => ?_)
    · exact hHeld
    clear hK K
    refine skO 8 (by simp only [gT, gZ, gS]; rfl) (fun K hK => ?_)
    go_simp
    refine (HW.out _).mono ?_
    rintro e V ⟨rfl, hbc⟩
    replace hr := hHeld.1.bl hbc
    replace hi := hHeld.2.1.bl hbc
    replace hb := below_bl rfl hHeld.2.2.2 hbc
    replace hq := hq.bl hbc
    replace hc2 := hc2.bl hbc
    clear hHeld
    go_simp
    refine hK.out _ _ ?_ (fun hHeld => ?_)
    · exact ⟨hr, hi, Or.inl hc2, hb⟩
    clear hK K
    refine tkO 9 (.tuple #[.agg c.cells, .nilIface]) (by simp only [gT, gZ, gS]; rfl) (puO (by (intro w hSw; (try dsimp only at hSw); go_simp))) ?_
    simp only [Act.put, pA, pZ, pS]
    refine tkO 10 (.agg c.cells) (by simp only [gT, gZ, gS]; rfl) (puO (by (intro w hSw; (try dsimp only at hSw); go_simp))) ?_
    simp only [Act.put, pA, pZ, pS]
    refine tkO 11 (.nilIface) (by simp only [gT, gZ, gS]; rfl) (puO (by (intro w hSw; (try dsimp only at hSw); go_simp))) ?_
    simp only [Act.put, pA, pZ, pS]
    refine skO 12 (by simp only [gT, gZ, gS]; rfl) (fun K hK => ?_)
    rw [if_pos (by rfl)]
    (with_reducible refine s_s (w.heap.size + 3) _ c hc2 ?_ ?_ ?_)
    · exact rfl
    · exact rfl
    intro W hnew ho
    replace hr := hr.only ho (by omega)
    replace hi := hi.only ho (by omega)
    replace hq := hq.only ho (by omega)
    replace hb := ho.bel _ _ (by omega) hb
    replace hc2 := hnew
    clear hHeld
    refine hK.out _ _ ?_ (fun hHeld => ?_)
    · exact ⟨hr, hi, Or.inr hc2, hb⟩
    clear hK K
    refine tkO 13 (.nilIface) (by simp only [gT, gZ, gS]; rfl) (puO (by (intro w hSw; (try dsimp only at hSw); go_simp))) ?_
    simp only [Act.put, pA, pZ, pS]
    refine wpAnyH_done (by kernel_rfl) ?_ _
    have qa : W.cell? ⟨w.heap.size + 1, 0, none⟩ = some (.int .i64 52) := hi.cell 0
    have qb : W.cell? ⟨w.heap.size + 1, 1, none⟩ = some (.int .i64 (rd : Nat)) := hi.cell 1
    have qc : W.cell? ⟨w.heap.size + 1, 2, none⟩ = some (.int .i64 (s1 : Nat)) := hi.cell 2
    go_wp2_with (first | ((with_reducible refine ld_h w.heap.size _ hr ?_ ?_); exact rfl) | ((with_reducible refine ld_c w.heap.size _ hr ?_ ?_); exact rfl) | ((with_reducible refine ld_s (w.heap.size + 3) _ hc2 ?_ ?_); exact rfl) | ((with_reducible refine ld_op (w.heap.size + 1) _ hi ?_ ?_); exact rfl) | ((with_reducible refine ld_rd (w.heap.size + 1) _ hi ?_ ?_); exact rfl) | ((with_reducible refine ld_rs1 (w.heap.size + 1) _ hi ?_ ?_); exact rfl) | ((with_reducible refine ld_csr (w.heap.size + 1) _ hi ?_ ?_); exact rfl) | ((with_reducible refine ld_x w.heap.size s1 _ h1 hr ?_ ?_); exact rfl) | ((with_reducible refine st_c w.heap.size _ c hr ?_ ?_ ?_); exact rfl; exact rfl; intro W hnew ho; obtain ⟨hi, hq, hc2, hb⟩ := on3 ho hi hq hc2 hb; replace hr := hnew) | (go_at_call 46; refine (HWr.out _).mono ?_; rintro e W ⟨rfl, hbc⟩; obtain ⟨hr, hi, hq, hc2, hb⟩ := bl4 hbc hr hi hq hc2 hb) | (go_at_call 45; refine (HN.out _).mono ?_; rintro e W ⟨rfl, hbc⟩; obtain ⟨hr, hi, hq, hc2, hb⟩ := bl4 hbc hr hi hq hc2 hb) | ((with_reducible refine st_h (w.heap.size + 2) _ (nextH (writeH (withC h c) rd old)) hq ?_ ?_ ?_); exact rfl; exact rfl; intro W hnew ho; obtain ⟨hr, hi, hc2, hb⟩ := on3 ho hr hi hc2 hb; replace hq := hnew))
    refine bodyPost_ret (results_cell_row Tryd.results26 _ _ (w.heap.size + 2) _ _ _ _ rfl hq Tryd.underlying31 rfl size_hart) rfl ?_
    exact ⟨rfl, hb⟩
  case b118 =>
    go_simp
    refine (HM.out _ ?_ _).mono ?_
    · first | rfl | omega
    rintro e V ⟨rfl, rfl⟩
    go_simp
    refine hK.out _ _ ?_ (fun hHeld => ?_)
    · exact hHeld
    clear hK K
    refine skO 0 (by simp only [gT, gZ]; rfl) (fun K hK => ?_)
    rw [if_pos (by rfl)]
    (with_reducible refine w_ld_s (w.heap.size + 3) h.c hc2 ?_ ?_)
    · exact rfl
    simp only [Act.put, pA, pZ, pS]
    refine hK.out _ _ ?_ (fun hHeld => ?_)
    · exact hHeld
    clear hK K
    refine skO 8 (by simp only [gT, gZ, gS]; rfl) (fun K hK => ?_)
    go_simp
    refine (HW.out _).mono ?_
    rintro e V ⟨rfl, hbc⟩
    replace hr := hHeld.1.bl hbc
    replace hi := hHeld.2.1.bl hbc
    replace hb := below_bl rfl hHeld.2.2.2 hbc
    replace hq := hq.bl hbc
    replace hc2 := hc2.bl hbc
    clear hHeld
    go_simp
    refine hK.out _ _ ?_ (fun hHeld => ?_)
    · exact ⟨hr, hi, Or.inl hc2, hb⟩
    clear hK K
    refine tkO 9 (.tuple #[.agg c.cells, .nilIface]) (by simp only [gT, gZ, gS]; rfl) (puO (by (intro w hSw; (try dsimp only at hSw); go_simp))) ?_
    simp only [Act.put, pA, pZ, pS]
    refine tkO 10 (.agg c.cells) (by simp only [gT, gZ, gS]; rfl) (puO (by (intro w hSw; (try dsimp only at hSw); go_simp))) ?_
    simp only [Act.put, pA, pZ, pS]
    refine tkO 11 (.nilIface) (by simp only [gT, gZ, gS]; rfl) (puO (by (intro w hSw; (try dsimp only at hSw); go_simp))) ?_
    simp only [Act.put, pA, pZ, pS]
    refine skO 12 (by simp only [gT, gZ, gS]; rfl) (fun K hK => ?_)
    rw [if_pos (by rfl)]
    (with_reducible refine s_s (w.heap.size + 3) _ c hc2 ?_ ?_ ?_)
    · exact rfl
    · exact rfl
    intro W hnew ho
    replace hr := hr.only ho (by omega)
    replace hi := hi.only ho (by omega)
    replace hq := hq.only ho (by omega)
    replace hb := ho.bel _ _ (by omega) hb
    replace hc2 := hnew
    clear hHeld
    refine hK.out _ _ ?_ (fun hHeld => ?_)
    · exact ⟨hr, hi, Or.inr hc2, hb⟩
    clear hK K
    refine tkO 13 (.nilIface) (by simp only [gT, gZ, gS]; rfl) (puO (by (intro w hSw; (try dsimp only at hSw); go_simp))) ?_
    simp only [Act.put, pA, pZ, pS]
    refine wpAnyH_done (by kernel_rfl) ?_ _
    have qa : W.cell? ⟨w.heap.size + 1, 0, none⟩ = some (.int .i64 52) := hi.cell 0
    have qb : W.cell? ⟨w.heap.size + 1, 1, none⟩ = some (.int .i64 (rd : Nat)) := hi.cell 1
    have qc : W.cell? ⟨w.heap.size + 1, 2, none⟩ = some (.int .i64 (s1 : Nat)) := hi.cell 2
    go_wp2_with (first | ((with_reducible refine ld_h w.heap.size _ hr ?_ ?_); exact rfl) | ((with_reducible refine ld_c w.heap.size _ hr ?_ ?_); exact rfl) | ((with_reducible refine ld_s (w.heap.size + 3) _ hc2 ?_ ?_); exact rfl) | ((with_reducible refine ld_op (w.heap.size + 1) _ hi ?_ ?_); exact rfl) | ((with_reducible refine ld_rd (w.heap.size + 1) _ hi ?_ ?_); exact rfl) | ((with_reducible refine ld_rs1 (w.heap.size + 1) _ hi ?_ ?_); exact rfl) | ((with_reducible refine ld_csr (w.heap.size + 1) _ hi ?_ ?_); exact rfl) | ((with_reducible refine ld_x w.heap.size s1 _ h1 hr ?_ ?_); exact rfl) | ((with_reducible refine st_c w.heap.size _ c hr ?_ ?_ ?_); exact rfl; exact rfl; intro W hnew ho; obtain ⟨hi, hq, hc2, hb⟩ := on3 ho hi hq hc2 hb; replace hr := hnew) | (go_at_call 46; refine (HWr.out _).mono ?_; rintro e W ⟨rfl, hbc⟩; obtain ⟨hr, hi, hq, hc2, hb⟩ := bl4 hbc hr hi hq hc2 hb) | (go_at_call 45; refine (HN.out _).mono ?_; rintro e W ⟨rfl, hbc⟩; obtain ⟨hr, hi, hq, hc2, hb⟩ := bl4 hbc hr hi hq hc2 hb) | ((with_reducible refine st_h (w.heap.size + 2) _ (nextH (writeH (withC h c) rd old)) hq ?_ ?_ ?_); exact rfl; exact rfl; intro W hnew ho; obtain ⟨hr, hi, hc2, hb⟩ := on3 ho hr hi hc2 hb; replace hq := hnew))
    refine bodyPost_ret (results_cell_row Tryd.results26 _ _ (w.heap.size + 2) _ _ _ _ rfl hq Tryd.underlying31 rfl size_hart) rfl ?_
    exact ⟨rfl, hb⟩

set_option maxHeartbeats 2000000 in
theorem control_52rD (h : H) (ok : h.Ok) (rd s1 s2 : Nat) (im cs : Int) (hrd : rd < 32) (h1 : s1 < 32) (v l : Nat) (hl : l < 4294967296) (h0 : s1 = 0) (old : Nat) (hold : old < 4294967296) (hR : readN h.c cs l = some old) (w : World) :
    Calls Tryd.prog 26 #[.agg h.cells, .agg (I6.cells ⟨52, (rd : Nat), (s1 : Nat), (s2 : Nat), im, cs⟩), .int .u32 v, .int .u32 l] w fun e w' => e = .returned (.agg (nextH (writeH h rd old)).cells) ∧ Below w.heap.size w w' := by
  have b1 : (0 : Int) ≤ s1 := by omega
  have b2 : (s1 : Int) < 32 := by omega
  have t2 : ((s1 : Int) != 0) = false := by simp; omega
  clear h0
  have HR := hide (fun w => cs_read_bl h.c ok.c cs l hl w)
  rw [hR] at HR
  simp only [readV] at HR
  clear hR
  have ok' : H.Ok h := ok
  have HWr := hide (fun w => write_any h rd hrd old w)
  have HN := hide (fun w => next_any _ (writeH_ok ok' rd hold) w)
  go_enter Tryd.func26, Tryd.ntmps26
  go_wp2_with (first | ((with_reducible refine bx_h w.heap.size h ?_ ?_ ?_); exact rfl; exact rfl; intro W hr hb hz) | ((with_reducible refine bx_i (w.heap.size + 1) ⟨52, (rd : Nat), (s1 : Nat), (s2 : Nat), im, cs⟩ ?_ ?_ ?_); exact hz.out; exact rfl; intro W hi hb' hz'; obtain ⟨hr, hb⟩ := an1 hz hb' hr hb; replace hz := hz') | ((with_reducible refine al_h (w.heap.size + 2) ?_ ?_); exact hz.out; intro W hq hb' hz'; obtain ⟨hr, hi, hb⟩ := an2 hz hb' hr hi hb; replace hz := hz'; obtain ⟨qa, qb, qc⟩ := q3 hi) | ((with_reducible refine al_c (w.heap.size + 3) ?_ ?_); exact hz.out; intro W hc2 hb' hz'; obtain ⟨hr, hi, hq, hb⟩ := an3 hz hb' hr hi hq hb; replace hz := hz'; obtain ⟨qa, qb, qc⟩ := q3 hi) | ((with_reducible refine st_s (w.heap.size + 3) _ h.c hc2 ?_ ?_ ?_); exact rfl; exact rfl; intro W hnew ho; obtain ⟨hr, hi, hq, hb⟩ := on3 ho hr hi hq hb; replace hc2 := hnew; obtain ⟨qa, qb, qc⟩ := q3 hi) | (go_at_call 52; refine (HR.out _).mono ?_; rintro e W ⟨rfl, hbc⟩; obtain ⟨hr, hi, hq, hc2, hb⟩ := bl4 hbc hr hi hq hc2 hb; obtain ⟨qa, qb, qc⟩ := q3 hi) | ((with_reducible refine ld_h w.heap.size _ hr ?_ ?_); exact rfl) | ((with_reducible refine ld_c w.heap.size _ hr ?_ ?_); exact rfl) | ((with_reducible refine ld_s (w.heap.size + 3) _ hc2 ?_ ?_); exact rfl) | ((with_reducible refine ld_op (w.heap.size + 1) _ hi ?_ ?_); exact rfl) | ((with_reducible refine ld_rd (w.heap.size + 1) _ hi ?_ ?_); exact rfl) | ((with_reducible refine ld_rs1 (w.heap.size + 1) _ hi ?_ ?_); exact rfl) | ((with_reducible refine ld_csr (w.heap.size + 1) _ hi ?_ ?_); exact rfl) | ((with_reducible refine ld_x w.heap.size s1 _ h1 hr ?_ ?_); exact rfl) | ((with_reducible refine st_c w.heap.size _ h.c hr ?_ ?_ ?_); exact rfl; exact rfl; intro W hnew ho; obtain ⟨hi, hq, hc2, hb⟩ := on3 ho hi hq hc2 hb; replace hr := hnew) | (go_at_call 46; refine (HWr.out _).mono ?_; rintro e W ⟨rfl, hbc⟩; obtain ⟨hr, hi, hq, hc2, hb⟩ := bl4 hbc hr hi hq hc2 hb) | (go_at_call 45; refine (HN.out _).mono ?_; rintro e W ⟨rfl, hbc⟩; obtain ⟨hr, hi, hq, hc2, hb⟩ := bl4 hbc hr hi hq hc2 hb) | ((with_reducible refine st_h (w.heap.size + 2) _ (nextH (writeH h rd old)) hq ?_ ?_ ?_); exact rfl; exact rfl; intro W hnew ho; obtain ⟨hr, hi, hc2, hb⟩ := on3 ho hr hi hc2 hb; replace hq := hnew))
  refine bodyPost_ret (results_cell_row Tryd.results26 _ _ (w.heap.size + 2) _ _ _ _ rfl hq Tryd.underlying31 rfl size_hart) rfl ?_
  exact ⟨rfl, hb⟩

set_option maxHeartbeats 2000000 in
theorem control_53rA (h : H) (ok : h.Ok) (rd s1 s2 : Nat) (im cs : Int) (hrd : rd < 32) (h1 : s1 < 32) (v l : Nat) (hl : l < 4294967296) (hR : readN h.c cs l = none) (w : World) :
    Calls Tryd.prog 26 #[.agg h.cells, .agg (I6.cells ⟨53, (rd : Nat), (s1 : Nat), (s2 : Nat), im, cs⟩), .int .u32 v, .int .u32 l] w fun e w' => e = .returned (.agg (trapH h 2 v).cells) ∧ Below w.heap.size w w' := by
  have b1 : (0 : Int) ≤ s1 := by omega
  have b2 : (s1 : Int) < 32 := by omega
  have HR := hide (fun w => cs_read_bl h.c ok.c cs l hl w)
  rw [hR] at HR
  simp only [readV] at HR
  clear hR
  have HT := hide (fun w => trap_any h ok 2 v (by decide) w)
  rw [show (((2 : Nat) : Int)) = 2 from rfl] at HT
  go_enter Tryd.func26, Tryd.ntmps26
  go_wp2_with (first | ((with_reducible refine bx_h w.heap.size h ?_ ?_ ?_); exact rfl; exact rfl; intro W hr hb hz) | ((with_reducible refine bx_i (w.heap.size + 1) ⟨53, (rd : Nat), (s1 : Nat), (s2 : Nat), im, cs⟩ ?_ ?_ ?_); exact hz.out; exact rfl; intro W hi hb' hz'; obtain ⟨hr, hb⟩ := an1 hz hb' hr hb; replace hz := hz') | ((with_reducible refine al_h (w.heap.size + 2) ?_ ?_); exact hz.out; intro W hq hb' hz'; obtain ⟨hr, hi, hb⟩ := an2 hz hb' hr hi hb; replace hz := hz'; obtain ⟨qa, qb, qc⟩ := q3 hi) | ((with_reducible refine al_c (w.heap.size + 3) ?_ ?_); exact hz.out; intro W hc2 hb' hz'; obtain ⟨hr, hi, hq, hb⟩ := an3 hz hb' hr hi hq hb; replace hz := hz'; obtain ⟨qa, qb, qc⟩ := q3 hi) | ((with_reducible refine st_s (w.heap.size + 3) _ h.c hc2 ?_ ?_ ?_); exact rfl; exact rfl; intro W hnew ho; obtain ⟨hr, hi, hq, hb⟩ := on3 ho hr hi hq hb; replace hc2 := hnew; obtain ⟨qa, qb, qc⟩ := q3 hi) | (go_at_call 52; refine (HR.out _).mono ?_; rintro e W ⟨rfl, hbc⟩; obtain ⟨hr, hi, hq, hc2, hb⟩ := bl4 hbc hr hi hq hc2 hb; obtain ⟨qa, qb, qc⟩ := q3 hi) | ((with_reducible refine ld_h w.heap.size _ hr ?_ ?_); exact rfl) | ((with_reducible refine ld_c w.heap.size _ hr ?_ ?_); exact rfl) | ((with_reducible refine ld_s (w.heap.size + 3) _ hc2 ?_ ?_); exact rfl) | ((with_reducible refine ld_op (w.heap.size + 1) _ hi ?_ ?_); exact rfl) | ((with_reducible refine ld_rd (w.heap.size + 1) _ hi ?_ ?_); exact rfl) | ((with_reducible refine ld_rs1 (w.heap.size + 1) _ hi ?_ ?_); exact rfl) | ((with_reducible refine ld_csr (w.heap.size + 1) _ hi ?_ ?_); exact rfl) | ((with_reducible refine ld_x w.heap.size s1 _ h1 hr ?_ ?_); exact rfl) | (go_at_call 22; refine (HT.out _).mono ?_; rintro e W ⟨rfl, hbc⟩; obtain ⟨hr, hi, hq, hc2, hb⟩ := bl4 hbc hr hi hq hc2 hb) | ((with_reducible refine st_h (w.heap.size + 2) _ (trapH h 2 v) hq ?_ ?_ ?_); exact rfl; exact rfl; intro W hnew ho; obtain ⟨hr, hi, hc2, hb⟩ := on3 ho hr hi hc2 hb; replace hq := hnew))
  refine bodyPost_ret (results_cell_row Tryd.results26 _ _ (w.heap.size + 2) _ _ _ _ rfl hq Tryd.underlying31 rfl size_hart) rfl ?_
  exact ⟨rfl, hb⟩

set_option maxHeartbeats 2000000 in
theorem control_53rB (h : H) (ok : h.Ok) (rd s1 s2 : Nat) (im cs : Int) (hrd : rd < 32) (h1 : s1 < 32) (v l : Nat) (hl : l < 4294967296) (h0 : s1 ≠ 0) (old : Nat) (hold : old < 4294967296) (hR : readN h.c cs l = some old) (c : S8) (k : Nat) (hW : writeN h.c cs (mixN 53 old (h.x s1)) = (c, k + 1)) (w : World) :
    Calls Tryd.prog 26 #[.agg h.cells, .agg (I6.cells ⟨53, (rd : Nat), (s1 : Nat), (s2 : Nat), im, cs⟩), .int .u32 v, .int .u32 l] w fun e w' => e = .returned (.agg (trapH h 2 v).cells) ∧ Below w.heap.size w w' := by
  have b1 : (0 : Int) ≤ s1 := by omega
  have b2 : (s1 : Int) < 32 := by omega
  have t2 : ((s1 : Int) != 0) = true := by simp; omega
  clear h0
  have HR := hide (fun w => cs_read_bl h.c ok.c cs l hl w)
  rw [hR] at HR
  simp only [readV] at HR
  clear hR
  have HM : Hid (∀ z : Int, z = (((h.x s1) : Nat) : Int) → ∀ w, Calls Tryd.prog 54 #[.int .i64 53, .int .u32 old, .int .u32 z] w fun e w' => e = .returned (.int .u32 ((mixN 53 old (h.x s1)) : Nat)) ∧ w' = w) := hide (fun z hz w => by rw [hz]; exact mixed_53 old (h.x s1) hold (ok.x s1) w)
  have HW := hide (fun w => cs_write_bl h.c ok.c cs (mixN 53 old (h.x s1)) (mixN_lt 53 hold (ok.x s1)) w)
  rw [hW] at HW
  simp only [errW] at HW
  clear hW
  generalize (mixN 53 old (h.x s1)) = M at HM HW
  have HT := hide (fun w => trap_any h ok 2 v (by decide) w)
  rw [show (((2 : Nat) : Int)) = 2 from rfl] at HT
  go_enter Tryd.func26, Tryd.ntmps26
  go_wp2_with (first | ((with_reducible refine bx_h w.heap.size h ?_ ?_ ?_); exact rfl; exact rfl; intro W hr hb hz) | ((with_reducible refine bx_i (w.heap.size + 1) ⟨53, (rd : Nat), (s1 : Nat), (s2 : Nat), im, cs⟩ ?_ ?_ ?_); exact hz.out; exact rfl; intro W hi hb' hz'; obtain ⟨hr, hb⟩ := an1 hz hb' hr hb; replace hz := hz') | ((with_reducible refine al_h (w.heap.size + 2) ?_ ?_); exact hz.out; intro W hq hb' hz'; obtain ⟨hr, hi, hb⟩ := an2 hz hb' hr hi hb; replace hz := hz'; obtain ⟨qa, qb, qc⟩ := q3 hi) | ((with_reducible refine al_c (w.heap.size + 3) ?_ ?_); exact hz.out; intro W hc2 hb' hz'; obtain ⟨hr, hi, hq, hb⟩ := an3 hz hb' hr hi hq hb; replace hz := hz'; obtain ⟨qa, qb, qc⟩ := q3 hi) | ((with_reducible refine st_s (w.heap.size + 3) _ h.c hc2 ?_ ?_ ?_); exact rfl; exact rfl; intro W hnew ho; obtain ⟨hr, hi, hq, hb⟩ := on3 ho hr hi hq hb; replace hc2 := hnew; obtain ⟨qa, qb, qc⟩ := q3 hi) | (go_at_call 52; refine (HR.out _).mono ?_; rintro e W ⟨rfl, hbc⟩; obtain ⟨hr, hi, hq, hc2, hb⟩ := bl4 hbc hr hi hq hc2 hb; obtain ⟨qa, qb, qc⟩ := q3 hi) | ((with_reducible refine ld_h w.heap.size _ hr ?_ ?_); exact rfl) | ((with_reducible refine ld_c w.heap.size _ hr ?_ ?_); exact rfl) | ((with_reducible refine ld_s (w.heap.size + 3) _ hc2 ?_ ?_); exact rfl) | ((with_reducible refine ld_op (w.heap.size + 1) _ hi ?_ ?_); exact rfl) | ((with_reducible refine ld_rd (w.heap.size + 1) _ hi ?_ ?_); exact rfl) | ((with_reducible refine ld_rs1 (w.heap.size + 1) _ hi ?_ ?_); exact rfl) | ((with_reducible refine ld_csr (w.heap.size + 1) _ hi ?_ ?_); exact rfl) | ((with_reducible refine ld_x w.heap.size s1 _ h1 hr ?_ ?_); exact rfl))
  refine wp_region_held_drew (S := (fun V => RowAt V w.heap.size h.cells 31 ∧ RowAt V (w.heap.size + 1) (I6.cells ⟨53, (rd : Nat), (s1 : Nat), (s2 : Nat), im, cs⟩) 61 ∧ (RowAt V (w.heap.size + 3) h.c.cells 29 ∨ RowAt V (w.heap.size + 3) c.cells 29) ∧ Below w.heap.size w V)) (by kernel_rfl) ?_ (fun hHeld => ?_)
  · exact ⟨hr.dr, hi.dr, Or.inl hc2.dr, hb.drew⟩
  replace hq := hq.dr
  replace hc2 := hc2.dr
  refine tkO 1 (.pointer (some ⟨w.heap.size + 1, 5, none⟩)) (by simp only [gT, gZ, gS]; rfl) (puO (by (intro w hSw; (try dsimp only at hSw); go_simp))) ?_
  simp only [Act.put, pA, pZ, pS]
  refine tkO 2 (.int .i64 cs) (by simp only [gT, gZ, gS]; rfl) (y_int (w.heap.size + 1) 5 _ (fun V hV => (hV.2.1.cell 5).trans rfl) rfl) ?_
  simp only [Act.put, pA, pZ, pS]
  refine tkO 3 (.pointer (some ⟨w.heap.size + 1, 0, none⟩)) (by simp only [gT, gZ, gS]; rfl) (puO (by (intro w hSw; (try dsimp only at hSw); go_simp))) ?_
  simp only [Act.put, pA, pZ, pS]
  refine tkO 4 (.int .i64 53) (by simp only [gT, gZ, gS]; rfl) (y_int (w.heap.size + 1) 0 _ (fun V hV => (hV.2.1.cell 0).trans rfl) rfl) ?_
  simp only [Act.put, pA, pZ, pS]
  refine tkO 5 (.int .u32 (old : Nat)) (by simp only [gT, gZ, gS]; rfl) (puO (by (intro w hSw; (try dsimp only at hSw); go_simp))) ?_
  simp only [Act.put, pA, pZ, pS]
  refine tkO 6 (.int .u32 ((h.x s1) : Nat)) (by simp only [gT, gZ, gS]; rfl) (puO (by (intro w hSw; (try dsimp only at hSw); go_simp <;> omega))) ?_
  simp only [Act.put, pA, pZ, pS]
  refine wpAnyH_ready (rs := [0, 7]) (by kernel_rfl) (by simp) ?_
  refine AllReadyH.cons (o := ?oi139) ?hi139 (fun K hK => ?b139) (AllReadyH.cons (o := ?oi140) ?hi140 (fun K hK => ?b140) AllReadyH.nil)
  case hi139 => (simp only [List.getElem?_toArray, List.getElem?_cons_zero]; rfl)
  case hi140 => (simp only [List.getElem?_toArray, List.getElem?_cons_zero, List.getElem?_cons_succ]; rfl)
  case b139 =>
    rw [if_pos (by rfl)]
    (with_reducible refine w_ld_s (w.heap.size + 3) h.c hc2 ?_ ?_)
    · exact rfl
    simp only [Act.put, pA, pZ, pS]
    refine hK.out _ _ ?_ (fun hHeld => ?_)
    · exact hHeld
    clear hK K
    refine skO 7 (by simp only [gT, gZ, gS]; rfl) (fun K hK => ?_)
    go_simp
    refine (HM.out _ ?_ _).mono ?_
    · first | rfl | omega
    rintro e V ⟨rfl, rfl⟩
    go_simp
    refine hK.out _ _ ?_ (fun hHeld => ?_)
    · exact hHeld
    clear hK K
    refine skO 8 (by simp only [gT, gZ, gS]; rfl) (fun K hK => ?_)
    go_simp
    refine (HW.out _).mono ?_
    rintro e V ⟨rfl, hbc⟩
    replace hr := hHeld.1.bl hbc
    replace hi := hHeld.2.1.bl hbc
    replace hb := below_bl rfl hHeld.2.2.2 hbc
    replace hq := hq.bl hbc
    replace hc2 := hc2.bl hbc
    clear hHeld
    go_simp
    refine hK.out _ _ ?_ (fun hHeld => ?_)
    · exact ⟨hr, hi, Or.inl hc2, hb⟩
    clear hK K
    refine tkO 9 (.tuple #[.agg c.cells, (.iface 89 (.int .i64 ((k : Int) + 1)))]) (by simp only [gT, gZ, gS]; rfl) (puO (by (intro w hSw; (try dsimp only at hSw); go_simp))) ?_
    simp only [Act.put, pA, pZ, pS]
    refine tkO 10 (.agg c.cells) (by simp only [gT, gZ, gS]; rfl) (puO (by (intro w hSw; (try dsimp only at hSw); go_simp))) ?_
    simp only [Act.put, pA, pZ, pS]
    refine tkO 11 ((.iface 89 (.int .i64 ((k : Int) + 1)))) (by simp only [gT, gZ, gS]; rfl) (puO (by (intro w hSw; (try dsimp only at hSw); go_simp))) ?_
    simp only [Act.put, pA, pZ, pS]
    refine skO 12 (by simp only [gT, gZ, gS]; rfl) (fun K hK => ?_)
    rw [if_pos (by rfl)]
    (with_reducible refine s_s (w.heap.size + 3) _ c hc2 ?_ ?_ ?_)
    · exact rfl
    · exact rfl
    intro W hnew ho
    replace hr := hr.only ho (by omega)
    replace hi := hi.only ho (by omega)
    replace hq := hq.only ho (by omega)
    replace hb := ho.bel _ _ (by omega) hb
    replace hc2 := hnew
    clear hHeld
    refine hK.out _ _ ?_ (fun hHeld => ?_)
    · exact ⟨hr, hi, Or.inr hc2, hb⟩
    clear hK K
    refine tkO 13 ((.iface 89 (.int .i64 ((k : Int) + 1)))) (by simp only [gT, gZ, gS]; rfl) (puO (by (intro w hSw; (try dsimp only at hSw); go_simp))) ?_
    simp only [Act.put, pA, pZ, pS]
    refine wpAnyH_done (by kernel_rfl) ?_ _
    have qa : W.cell? ⟨w.heap.size + 1, 0, none⟩ = some (.int .i64 53) := hi.cell 0
    have qb : W.cell? ⟨w.heap.size + 1, 1, none⟩ = some (.int .i64 (rd : Nat)) := hi.cell 1
    have qc : W.cell? ⟨w.heap.size + 1, 2, none⟩ = some (.int .i64 (s1 : Nat)) := hi.cell 2
    go_wp2_with (first | ((with_reducible refine ld_h w.heap.size _ hr ?_ ?_); exact rfl) | ((with_reducible refine ld_c w.heap.size _ hr ?_ ?_); exact rfl) | ((with_reducible refine ld_s (w.heap.size + 3) _ hc2 ?_ ?_); exact rfl) | ((with_reducible refine ld_op (w.heap.size + 1) _ hi ?_ ?_); exact rfl) | ((with_reducible refine ld_rd (w.heap.size + 1) _ hi ?_ ?_); exact rfl) | ((with_reducible refine ld_rs1 (w.heap.size + 1) _ hi ?_ ?_); exact rfl) | ((with_reducible refine ld_csr (w.heap.size + 1) _ hi ?_ ?_); exact rfl) | ((with_reducible refine ld_x w.heap.size s1 _ h1 hr ?_ ?_); exact rfl) | (go_at_call 22; refine (HT.out _).mono ?_; rintro e W ⟨rfl, hbc⟩; obtain ⟨hr, hi, hq, hc2, hb⟩ := bl4 hbc hr hi hq hc2 hb) | ((with_reducible refine st_h (w.heap.size + 2) _ (trapH h 2 v) hq ?_ ?_ ?_); exact rfl; exact rfl; intro W hnew ho; obtain ⟨hr, hi, hc2, hb⟩ := on3 ho hr hi hc2 hb; replace hq := hnew))
    refine bodyPost_ret (results_cell_row Tryd.results26 _ _ (w.heap.size + 2) _ _ _ _ rfl hq Tryd.underlying31 rfl size_hart) rfl ?_
    exact ⟨rfl, hb⟩
  case b140 =>
    go_simp
    refine (HM.out _ ?_ _).mono ?_
    · first | rfl | omega
    rintro e V ⟨rfl, rfl⟩
    go_simp
    refine hK.out _ _ ?_ (fun hHeld => ?_)
    · exact hHeld
    clear hK K
    refine skO 0 (by simp only [gT, gZ]; rfl) (fun K hK => ?_)
    rw [if_pos (by rfl)]
    (with_reducible refine w_ld_s (w.heap.size + 3) h.c hc2 ?_ ?_)
    · exact rfl
    simp only [Act.put, pA, pZ, pS]
    refine hK.out _ _ ?_ (fun hHeld => ?_)
    · exact hHeld
    clear hK K
    refine skO 8 (by simp only [gT, gZ, gS]; rfl) (fun K hK => ?_)
    go_simp
    refine (HW.out _).mono ?_
    rintro e V ⟨rfl, hbc⟩
    replace hr := hHeld.1.bl hbc
    replace hi := hHeld.2.1.bl hbc
    replace hb := below_bl rfl hHeld.2.2.2 hbc
    replace hq := hq.bl hbc
    replace hc2 := hc2.bl hbc
    clear hHeld
    go_simp
    refine hK.out _ _ ?_ (fun hHeld => ?_)
    · exact ⟨hr, hi, Or.inl hc2, hb⟩
    clear hK K
    refine tkO 9 (.tuple #[.agg c.cells, (.iface 89 (.int .i64 ((k : Int) + 1)))]) (by simp only [gT, gZ, gS]; rfl) (puO (by (intro w hSw; (try dsimp only at hSw); go_simp))) ?_
    simp only [Act.put, pA, pZ, pS]
    refine tkO 10 (.agg c.cells) (by simp only [gT, gZ, gS]; rfl) (puO (by (intro w hSw; (try dsimp only at hSw); go_simp))) ?_
    simp only [Act.put, pA, pZ, pS]
    refine tkO 11 ((.iface 89 (.int .i64 ((k : Int) + 1)))) (by simp only [gT, gZ, gS]; rfl) (puO (by (intro w hSw; (try dsimp only at hSw); go_simp))) ?_
    simp only [Act.put, pA, pZ, pS]
    refine skO 12 (by simp only [gT, gZ, gS]; rfl) (fun K hK => ?_)
    rw [if_pos (by rfl)]
    (with_reducible refine s_s (w.heap.size + 3) _ c hc2 ?_ ?_ ?_)
    · exact rfl
    · exact rfl
    intro W hnew ho
    replace hr := hr.only ho (by omega)
    replace hi := hi.only ho (by omega)
    replace hq := hq.only ho (by omega)
    replace hb := ho.bel _ _ (by omega) hb
    replace hc2 := hnew
    clear hHeld
    refine hK.out _ _ ?_ (fun hHeld => ?_)
    · exact ⟨hr, hi, Or.inr hc2, hb⟩
    clear hK K
    refine tkO 13 ((.iface 89 (.int .i64 ((k : Int) + 1)))) (by simp only [gT, gZ, gS]; rfl) (puO (by (intro w hSw; (try dsimp only at hSw); go_simp))) ?_
    simp only [Act.put, pA, pZ, pS]
    refine wpAnyH_done (by kernel_rfl) ?_ _
    have qa : W.cell? ⟨w.heap.size + 1, 0, none⟩ = some (.int .i64 53) := hi.cell 0
    have qb : W.cell? ⟨w.heap.size + 1, 1, none⟩ = some (.int .i64 (rd : Nat)) := hi.cell 1
    have qc : W.cell? ⟨w.heap.size + 1, 2, none⟩ = some (.int .i64 (s1 : Nat)) := hi.cell 2
    go_wp2_with (first | ((with_reducible refine ld_h w.heap.size _ hr ?_ ?_); exact rfl) | ((with_reducible refine ld_c w.heap.size _ hr ?_ ?_); exact rfl) | ((with_reducible refine ld_s (w.heap.size + 3) _ hc2 ?_ ?_); exact rfl) | ((with_reducible refine ld_op (w.heap.size + 1) _ hi ?_ ?_); exact rfl) | ((with_reducible refine ld_rd (w.heap.size + 1) _ hi ?_ ?_); exact rfl) | ((with_reducible refine ld_rs1 (w.heap.size + 1) _ hi ?_ ?_); exact rfl) | ((with_reducible refine ld_csr (w.heap.size + 1) _ hi ?_ ?_); exact rfl) | ((with_reducible refine ld_x w.heap.size s1 _ h1 hr ?_ ?_); exact rfl) | (go_at_call 22; refine (HT.out _).mono ?_; rintro e W ⟨rfl, hbc⟩; obtain ⟨hr, hi, hq, hc2, hb⟩ := bl4 hbc hr hi hq hc2 hb) | ((with_reducible refine st_h (w.heap.size + 2) _ (trapH h 2 v) hq ?_ ?_ ?_); exact rfl; exact rfl; intro W hnew ho; obtain ⟨hr, hi, hc2, hb⟩ := on3 ho hr hi hc2 hb; replace hq := hnew))
    refine bodyPost_ret (results_cell_row Tryd.results26 _ _ (w.heap.size + 2) _ _ _ _ rfl hq Tryd.underlying31 rfl size_hart) rfl ?_
    exact ⟨rfl, hb⟩

set_option maxHeartbeats 2000000 in
theorem control_53rC (h : H) (ok : h.Ok) (rd s1 s2 : Nat) (im cs : Int) (hrd : rd < 32) (h1 : s1 < 32) (v l : Nat) (hl : l < 4294967296) (h0 : s1 ≠ 0) (old : Nat) (hold : old < 4294967296) (hR : readN h.c cs l = some old) (c : S8) (hc : c.Ok) (hW : writeN h.c cs (mixN 53 old (h.x s1)) = (c, 0)) (w : World) :
    Calls Tryd.prog 26 #[.agg h.cells, .agg (I6.cells ⟨53, (rd : Nat), (s1 : Nat), (s2 : Nat), im, cs⟩), .int .u32 v, .int .u32 l] w fun e w' => e = .returned (.agg (nextH (writeH (withC h c) rd old)).cells) ∧ Below w.heap.size w w' := by
  have b1 : (0 : Int) ≤ s1 := by omega
  have b2 : (s1 : Int) < 32 := by omega
  have t2 : ((s1 : Int) != 0) = true := by simp; omega
  clear h0
  have HR := hide (fun w => cs_read_bl h.c ok.c cs l hl w)
  rw [hR] at HR
  simp only [readV] at HR
  clear hR
  have HM : Hid (∀ z : Int, z = (((h.x s1) : Nat) : Int) → ∀ w, Calls Tryd.prog 54 #[.int .i64 53, .int .u32 old, .int .u32 z] w fun e w' => e = .returned (.int .u32 ((mixN 53 old (h.x s1)) : Nat)) ∧ w' = w) := hide (fun z hz w => by rw [hz]; exact mixed_53 old (h.x s1) hold (ok.x s1) w)
  have HW := hide (fun w => cs_write_bl h.c ok.c cs (mixN 53 old (h.x s1)) (mixN_lt 53 hold (ok.x s1)) w)
  rw [hW] at HW
  simp only [errW] at HW
  clear hW
  generalize (mixN 53 old (h.x s1)) = M at HM HW
  have ok' : H.Ok (withC h c) := ⟨ok.pc, ok.x, hc⟩
  have HWr := hide (fun w => write_any (withC h c) rd hrd old w)
  have HN := hide (fun w => next_any _ (writeH_ok ok' rd hold) w)
  go_enter Tryd.func26, Tryd.ntmps26
  go_wp2_with (first | ((with_reducible refine bx_h w.heap.size h ?_ ?_ ?_); exact rfl; exact rfl; intro W hr hb hz) | ((with_reducible refine bx_i (w.heap.size + 1) ⟨53, (rd : Nat), (s1 : Nat), (s2 : Nat), im, cs⟩ ?_ ?_ ?_); exact hz.out; exact rfl; intro W hi hb' hz'; obtain ⟨hr, hb⟩ := an1 hz hb' hr hb; replace hz := hz') | ((with_reducible refine al_h (w.heap.size + 2) ?_ ?_); exact hz.out; intro W hq hb' hz'; obtain ⟨hr, hi, hb⟩ := an2 hz hb' hr hi hb; replace hz := hz'; obtain ⟨qa, qb, qc⟩ := q3 hi) | ((with_reducible refine al_c (w.heap.size + 3) ?_ ?_); exact hz.out; intro W hc2 hb' hz'; obtain ⟨hr, hi, hq, hb⟩ := an3 hz hb' hr hi hq hb; replace hz := hz'; obtain ⟨qa, qb, qc⟩ := q3 hi) | ((with_reducible refine st_s (w.heap.size + 3) _ h.c hc2 ?_ ?_ ?_); exact rfl; exact rfl; intro W hnew ho; obtain ⟨hr, hi, hq, hb⟩ := on3 ho hr hi hq hb; replace hc2 := hnew; obtain ⟨qa, qb, qc⟩ := q3 hi) | (go_at_call 52; refine (HR.out _).mono ?_; rintro e W ⟨rfl, hbc⟩; obtain ⟨hr, hi, hq, hc2, hb⟩ := bl4 hbc hr hi hq hc2 hb; obtain ⟨qa, qb, qc⟩ := q3 hi) | ((with_reducible refine ld_h w.heap.size _ hr ?_ ?_); exact rfl) | ((with_reducible refine ld_c w.heap.size _ hr ?_ ?_); exact rfl) | ((with_reducible refine ld_s (w.heap.size + 3) _ hc2 ?_ ?_); exact rfl) | ((with_reducible refine ld_op (w.heap.size + 1) _ hi ?_ ?_); exact rfl) | ((with_reducible refine ld_rd (w.heap.size + 1) _ hi ?_ ?_); exact rfl) | ((with_reducible refine ld_rs1 (w.heap.size + 1) _ hi ?_ ?_); exact rfl) | ((with_reducible refine ld_csr (w.heap.size + 1) _ hi ?_ ?_); exact rfl) | ((with_reducible refine ld_x w.heap.size s1 _ h1 hr ?_ ?_); exact rfl))
  refine wp_region_held_drew (S := (fun V => RowAt V w.heap.size h.cells 31 ∧ RowAt V (w.heap.size + 1) (I6.cells ⟨53, (rd : Nat), (s1 : Nat), (s2 : Nat), im, cs⟩) 61 ∧ (RowAt V (w.heap.size + 3) h.c.cells 29 ∨ RowAt V (w.heap.size + 3) c.cells 29) ∧ Below w.heap.size w V)) (by kernel_rfl) ?_ (fun hHeld => ?_)
  · exact ⟨hr.dr, hi.dr, Or.inl hc2.dr, hb.drew⟩
  replace hq := hq.dr
  replace hc2 := hc2.dr
  refine tkO 1 (.pointer (some ⟨w.heap.size + 1, 5, none⟩)) (by simp only [gT, gZ, gS]; rfl) (puO (by (intro w hSw; (try dsimp only at hSw); go_simp))) ?_
  simp only [Act.put, pA, pZ, pS]
  refine tkO 2 (.int .i64 cs) (by simp only [gT, gZ, gS]; rfl) (y_int (w.heap.size + 1) 5 _ (fun V hV => (hV.2.1.cell 5).trans rfl) rfl) ?_
  simp only [Act.put, pA, pZ, pS]
  refine tkO 3 (.pointer (some ⟨w.heap.size + 1, 0, none⟩)) (by simp only [gT, gZ, gS]; rfl) (puO (by (intro w hSw; (try dsimp only at hSw); go_simp))) ?_
  simp only [Act.put, pA, pZ, pS]
  refine tkO 4 (.int .i64 53) (by simp only [gT, gZ, gS]; rfl) (y_int (w.heap.size + 1) 0 _ (fun V hV => (hV.2.1.cell 0).trans rfl) rfl) ?_
  simp only [Act.put, pA, pZ, pS]
  refine tkO 5 (.int .u32 (old : Nat)) (by simp only [gT, gZ, gS]; rfl) (puO (by (intro w hSw; (try dsimp only at hSw); go_simp))) ?_
  simp only [Act.put, pA, pZ, pS]
  refine tkO 6 (.int .u32 ((h.x s1) : Nat)) (by simp only [gT, gZ, gS]; rfl) (puO (by (intro w hSw; (try dsimp only at hSw); go_simp <;> omega))) ?_
  simp only [Act.put, pA, pZ, pS]
  refine wpAnyH_ready (rs := [0, 7]) (by kernel_rfl) (by simp) ?_
  refine AllReadyH.cons (o := ?oi161) ?hi161 (fun K hK => ?b161) (AllReadyH.cons (o := ?oi162) ?hi162 (fun K hK => ?b162) AllReadyH.nil)
  case hi161 => (simp only [List.getElem?_toArray, List.getElem?_cons_zero]; rfl)
  case hi162 => (simp only [List.getElem?_toArray, List.getElem?_cons_zero, List.getElem?_cons_succ]; rfl)
  case b161 =>
    rw [if_pos (by rfl)]
    (with_reducible refine w_ld_s (w.heap.size + 3) h.c hc2 ?_ ?_)
    · exact rfl
    simp only [Act.put, pA, pZ, pS]
    refine hK.out _ _ ?_ (fun hHeld => ?_)
    · exact hHeld
    clear hK K
    refine skO 7 (by simp only [gT, gZ, gS]; rfl) (fun K hK => ?_)
    go_simp
    refine (HM.out _ ?_ _).mono ?_
    · first | rfl | omega
    rintro e V ⟨rfl, rfl⟩
    go_simp
    refine hK.out _ _ ?_ (fun hHeld => ?_)
    · exact hHeld
    clear hK K
    refine skO 8 (by simp only [gT, gZ, gS]; rfl) (fun K hK => ?_)
    go_simp
    refine (HW.out _).mono ?_
    rintro e V ⟨rfl, hbc⟩
    replace hr := hHeld.1.bl hbc
    replace hi := hHeld.2.1.bl hbc
    replace hb := below_bl rfl hHeld.2.2.2 hbc
    replace hq := hq.bl hbc
    replace hc2 := hc2.bl hbc
    clear hHeld
    go_simp
    refine hK.out _ _ ?_ (fun hHeld => ?_)
    · exact ⟨hr, hi, Or.inl hc2, hb⟩
    clear hK K
    refine tkO 9 (.tuple #[.agg c.cells, .nilIface]) (by simp only [gT, gZ, gS]; rfl) (puO (by (intro w hSw; (try dsimp only at hSw); go_simp))) ?_
    simp only [Act.put, pA, pZ, pS]
    refine tkO 10 (.agg c.cells) (by simp only [gT, gZ, gS]; rfl) (puO (by (intro w hSw; (try dsimp only at hSw); go_simp))) ?_
    simp only [Act.put, pA, pZ, pS]
    refine tkO 11 (.nilIface) (by simp only [gT, gZ, gS]; rfl) (puO (by (intro w hSw; (try dsimp only at hSw); go_simp))) ?_
    simp only [Act.put, pA, pZ, pS]
    refine skO 12 (by simp only [gT, gZ, gS]; rfl) (fun K hK => ?_)
    rw [if_pos (by rfl)]
    (with_reducible refine s_s (w.heap.size + 3) _ c hc2 ?_ ?_ ?_)
    · exact rfl
    · exact rfl
    intro W hnew ho
    replace hr := hr.only ho (by omega)
    replace hi := hi.only ho (by omega)
    replace hq := hq.only ho (by omega)
    replace hb := ho.bel _ _ (by omega) hb
    replace hc2 := hnew
    clear hHeld
    refine hK.out _ _ ?_ (fun hHeld => ?_)
    · exact ⟨hr, hi, Or.inr hc2, hb⟩
    clear hK K
    refine tkO 13 (.nilIface) (by simp only [gT, gZ, gS]; rfl) (puO (by (intro w hSw; (try dsimp only at hSw); go_simp))) ?_
    simp only [Act.put, pA, pZ, pS]
    refine wpAnyH_done (by kernel_rfl) ?_ _
    have qa : W.cell? ⟨w.heap.size + 1, 0, none⟩ = some (.int .i64 53) := hi.cell 0
    have qb : W.cell? ⟨w.heap.size + 1, 1, none⟩ = some (.int .i64 (rd : Nat)) := hi.cell 1
    have qc : W.cell? ⟨w.heap.size + 1, 2, none⟩ = some (.int .i64 (s1 : Nat)) := hi.cell 2
    go_wp2_with (first | ((with_reducible refine ld_h w.heap.size _ hr ?_ ?_); exact rfl) | ((with_reducible refine ld_c w.heap.size _ hr ?_ ?_); exact rfl) | ((with_reducible refine ld_s (w.heap.size + 3) _ hc2 ?_ ?_); exact rfl) | ((with_reducible refine ld_op (w.heap.size + 1) _ hi ?_ ?_); exact rfl) | ((with_reducible refine ld_rd (w.heap.size + 1) _ hi ?_ ?_); exact rfl) | ((with_reducible refine ld_rs1 (w.heap.size + 1) _ hi ?_ ?_); exact rfl) | ((with_reducible refine ld_csr (w.heap.size + 1) _ hi ?_ ?_); exact rfl) | ((with_reducible refine ld_x w.heap.size s1 _ h1 hr ?_ ?_); exact rfl) | ((with_reducible refine st_c w.heap.size _ c hr ?_ ?_ ?_); exact rfl; exact rfl; intro W hnew ho; obtain ⟨hi, hq, hc2, hb⟩ := on3 ho hi hq hc2 hb; replace hr := hnew) | (go_at_call 46; refine (HWr.out _).mono ?_; rintro e W ⟨rfl, hbc⟩; obtain ⟨hr, hi, hq, hc2, hb⟩ := bl4 hbc hr hi hq hc2 hb) | (go_at_call 45; refine (HN.out _).mono ?_; rintro e W ⟨rfl, hbc⟩; obtain ⟨hr, hi, hq, hc2, hb⟩ := bl4 hbc hr hi hq hc2 hb) | ((with_reducible refine st_h (w.heap.size + 2) _ (nextH (writeH (withC h c) rd old)) hq ?_ ?_ ?_); exact rfl; exact rfl; intro W hnew ho; obtain ⟨hr, hi, hc2, hb⟩ := on3 ho hr hi hc2 hb; replace hq := hnew))
    refine bodyPost_ret (results_cell_row Tryd.results26 _ _ (w.heap.size + 2) _ _ _ _ rfl hq Tryd.underlying31 rfl size_hart) rfl ?_
    exact ⟨rfl, hb⟩
  case b162 =>
    go_simp
    refine (HM.out _ ?_ _).mono ?_
    · first | rfl | omega
    rintro e V ⟨rfl, rfl⟩
    go_simp
    refine hK.out _ _ ?_ (fun hHeld => ?_)
    · exact hHeld
    clear hK K
    refine skO 0 (by simp only [gT, gZ]; rfl) (fun K hK => ?_)
    rw [if_pos (by rfl)]
    (with_reducible refine w_ld_s (w.heap.size + 3) h.c hc2 ?_ ?_)
    · exact rfl
    simp only [Act.put, pA, pZ, pS]
    refine hK.out _ _ ?_ (fun hHeld => ?_)
    · exact hHeld
    clear hK K
    refine skO 8 (by simp only [gT, gZ, gS]; rfl) (fun K hK => ?_)
    go_simp
    refine (HW.out _).mono ?_
    rintro e V ⟨rfl, hbc⟩
    replace hr := hHeld.1.bl hbc
    replace hi := hHeld.2.1.bl hbc
    replace hb := below_bl rfl hHeld.2.2.2 hbc
    replace hq := hq.bl hbc
    replace hc2 := hc2.bl hbc
    clear hHeld
    go_simp
    refine hK.out _ _ ?_ (fun hHeld => ?_)
    · exact ⟨hr, hi, Or.inl hc2, hb⟩
    clear hK K
    refine tkO 9 (.tuple #[.agg c.cells, .nilIface]) (by simp only [gT, gZ, gS]; rfl) (puO (by (intro w hSw; (try dsimp only at hSw); go_simp))) ?_
    simp only [Act.put, pA, pZ, pS]
    refine tkO 10 (.agg c.cells) (by simp only [gT, gZ, gS]; rfl) (puO (by (intro w hSw; (try dsimp only at hSw); go_simp))) ?_
    simp only [Act.put, pA, pZ, pS]
    refine tkO 11 (.nilIface) (by simp only [gT, gZ, gS]; rfl) (puO (by (intro w hSw; (try dsimp only at hSw); go_simp))) ?_
    simp only [Act.put, pA, pZ, pS]
    refine skO 12 (by simp only [gT, gZ, gS]; rfl) (fun K hK => ?_)
    rw [if_pos (by rfl)]
    (with_reducible refine s_s (w.heap.size + 3) _ c hc2 ?_ ?_ ?_)
    · exact rfl
    · exact rfl
    intro W hnew ho
    replace hr := hr.only ho (by omega)
    replace hi := hi.only ho (by omega)
    replace hq := hq.only ho (by omega)
    replace hb := ho.bel _ _ (by omega) hb
    replace hc2 := hnew
    clear hHeld
    refine hK.out _ _ ?_ (fun hHeld => ?_)
    · exact ⟨hr, hi, Or.inr hc2, hb⟩
    clear hK K
    refine tkO 13 (.nilIface) (by simp only [gT, gZ, gS]; rfl) (puO (by (intro w hSw; (try dsimp only at hSw); go_simp))) ?_
    simp only [Act.put, pA, pZ, pS]
    refine wpAnyH_done (by kernel_rfl) ?_ _
    have qa : W.cell? ⟨w.heap.size + 1, 0, none⟩ = some (.int .i64 53) := hi.cell 0
    have qb : W.cell? ⟨w.heap.size + 1, 1, none⟩ = some (.int .i64 (rd : Nat)) := hi.cell 1
    have qc : W.cell? ⟨w.heap.size + 1, 2, none⟩ = some (.int .i64 (s1 : Nat)) := hi.cell 2
    go_wp2_with (first | ((with_reducible refine ld_h w.heap.size _ hr ?_ ?_); exact rfl) | ((with_reducible refine ld_c w.heap.size _ hr ?_ ?_); exact rfl) | ((with_reducible refine ld_s (w.heap.size + 3) _ hc2 ?_ ?_); exact rfl) | ((with_reducible refine ld_op (w.heap.size + 1) _ hi ?_ ?_); exact rfl) | ((with_reducible refine ld_rd (w.heap.size + 1) _ hi ?_ ?_); exact rfl) | ((with_reducible refine ld_rs1 (w.heap.size + 1) _ hi ?_ ?_); exact rfl) | ((with_reducible refine ld_csr (w.heap.size + 1) _ hi ?_ ?_); exact rfl) | ((with_reducible refine ld_x w.heap.size s1 _ h1 hr ?_ ?_); exact rfl) | ((with_reducible refine st_c w.heap.size _ c hr ?_ ?_ ?_); exact rfl; exact rfl; intro W hnew ho; obtain ⟨hi, hq, hc2, hb⟩ := on3 ho hi hq hc2 hb; replace hr := hnew) | (go_at_call 46; refine (HWr.out _).mono ?_; rintro e W ⟨rfl, hbc⟩; obtain ⟨hr, hi, hq, hc2, hb⟩ := bl4 hbc hr hi hq hc2 hb) | (go_at_call 45; refine (HN.out _).mono ?_; rintro e W ⟨rfl, hbc⟩; obtain ⟨hr, hi, hq, hc2, hb⟩ := bl4 hbc hr hi hq hc2 hb) | ((with_reducible refine st_h (w.heap.size + 2) _ (nextH (writeH (withC h c) rd old)) hq ?_ ?_ ?_); exact rfl; exact rfl; intro W hnew ho; obtain ⟨hr, hi, hc2, hb⟩ := on3 ho hr hi hc2 hb; replace hq := hnew))
    refine bodyPost_ret (results_cell_row Tryd.results26 _ _ (w.heap.size + 2) _ _ _ _ rfl hq Tryd.underlying31 rfl size_hart) rfl ?_
    exact ⟨rfl, hb⟩

set_option maxHeartbeats 2000000 in
theorem control_53rD (h : H) (ok : h.Ok) (rd s1 s2 : Nat) (im cs : Int) (hrd : rd < 32) (h1 : s1 < 32) (v l : Nat) (hl : l < 4294967296) (h0 : s1 = 0) (old : Nat) (hold : old < 4294967296) (hR : readN h.c cs l = some old) (w : World) :
    Calls Tryd.prog 26 #[.agg h.cells, .agg (I6.cells ⟨53, (rd : Nat), (s1 : Nat), (s2 : Nat), im, cs⟩), .int .u32 v, .int .u32 l] w fun e w' => e = .returned (.agg (nextH (writeH h rd old)).cells) ∧ Below w.heap.size w w' := by
  have b1 : (0 : Int) ≤ s1 := by omega
  have b2 : (s1 : Int) < 32 := by omega
  have t2 : ((s1 : Int) != 0) = false := by simp; omega
  clear h0
  have HR := hide (fun w => cs_read_bl h.c ok.c cs l hl w)
  rw [hR] at HR
  simp only [readV] at HR
  clear hR
  have ok' : H.Ok h := ok
  have HWr := hide (fun w => write_any h rd hrd old w)
  have HN := hide (fun w => next_any _ (writeH_ok ok' rd hold) w)
  go_enter Tryd.func26, Tryd.ntmps26
  go_wp2_with (first | ((with_reducible refine bx_h w.heap.size h ?_ ?_ ?_); exact rfl; exact rfl; intro W hr hb hz) | ((with_reducible refine bx_i (w.heap.size + 1) ⟨53, (rd : Nat), (s1 : Nat), (s2 : Nat), im, cs⟩ ?_ ?_ ?_); exact hz.out; exact rfl; intro W hi hb' hz'; obtain ⟨hr, hb⟩ := an1 hz hb' hr hb; replace hz := hz') | ((with_reducible refine al_h (w.heap.size + 2) ?_ ?_); exact hz.out; intro W hq hb' hz'; obtain ⟨hr, hi, hb⟩ := an2 hz hb' hr hi hb; replace hz := hz'; obtain ⟨qa, qb, qc⟩ := q3 hi) | ((with_reducible refine al_c (w.heap.size + 3) ?_ ?_); exact hz.out; intro W hc2 hb' hz'; obtain ⟨hr, hi, hq, hb⟩ := an3 hz hb' hr hi hq hb; replace hz := hz'; obtain ⟨qa, qb, qc⟩ := q3 hi) | ((with_reducible refine st_s (w.heap.size + 3) _ h.c hc2 ?_ ?_ ?_); exact rfl; exact rfl; intro W hnew ho; obtain ⟨hr, hi, hq, hb⟩ := on3 ho hr hi hq hb; replace hc2 := hnew; obtain ⟨qa, qb, qc⟩ := q3 hi) | (go_at_call 52; refine (HR.out _).mono ?_; rintro e W ⟨rfl, hbc⟩; obtain ⟨hr, hi, hq, hc2, hb⟩ := bl4 hbc hr hi hq hc2 hb; obtain ⟨qa, qb, qc⟩ := q3 hi) | ((with_reducible refine ld_h w.heap.size _ hr ?_ ?_); exact rfl) | ((with_reducible refine ld_c w.heap.size _ hr ?_ ?_); exact rfl) | ((with_reducible refine ld_s (w.heap.size + 3) _ hc2 ?_ ?_); exact rfl) | ((with_reducible refine ld_op (w.heap.size + 1) _ hi ?_ ?_); exact rfl) | ((with_reducible refine ld_rd (w.heap.size + 1) _ hi ?_ ?_); exact rfl) | ((with_reducible refine ld_rs1 (w.heap.size + 1) _ hi ?_ ?_); exact rfl) | ((with_reducible refine ld_csr (w.heap.size + 1) _ hi ?_ ?_); exact rfl) | ((with_reducible refine ld_x w.heap.size s1 _ h1 hr ?_ ?_); exact rfl) | ((with_reducible refine st_c w.heap.size _ h.c hr ?_ ?_ ?_); exact rfl; exact rfl; intro W hnew ho; obtain ⟨hi, hq, hc2, hb⟩ := on3 ho hi hq hc2 hb; replace hr := hnew) | (go_at_call 46; refine (HWr.out _).mono ?_; rintro e W ⟨rfl, hbc⟩; obtain ⟨hr, hi, hq, hc2, hb⟩ := bl4 hbc hr hi hq hc2 hb) | (go_at_call 45; refine (HN.out _).mono ?_; rintro e W ⟨rfl, hbc⟩; obtain ⟨hr, hi, hq, hc2, hb⟩ := bl4 hbc hr hi hq hc2 hb) | ((with_reducible refine st_h (w.heap.size + 2) _ (nextH (writeH h rd old)) hq ?_ ?_ ?_); exact rfl; exact rfl; intro W hnew ho; obtain ⟨hr, hi, hc2, hb⟩ := on3 ho hr hi hc2 hb; replace hq := hnew))
  refine bodyPost_ret (results_cell_row Tryd.results26 _ _ (w.heap.size + 2) _ _ _ _ rfl hq Tryd.underlying31 rfl size_hart) rfl ?_
  exact ⟨rfl, hb⟩

end Go.Proofs.YtchjhpeogdkbmaaDoor
