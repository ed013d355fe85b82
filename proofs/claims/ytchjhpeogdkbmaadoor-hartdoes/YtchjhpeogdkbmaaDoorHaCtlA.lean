/-
  What hart.control answers.
-/
import Derived.Test.YtchjhpeogdkbmaaDoorTk
import Derived.Test.YtchjhpeogdkbmaaDoorHaSys
import Derived.Test.YtchjhpeogdkbmaaDoorHaRowC
import Derived.Test.YtchjhpeogdkbmaaDoorHCsRead
import Derived.Test.YtchjhpeogdkbmaaDoorHCsWrite
import Derived.Deep.RegionHeld3
namespace Go.Proofs.YtchjhpeogdkbmaaDoor
open Go.RowKit
set_option linter.unusedVariables false

theorem w_ld_s {dst : Option Tmp} {ty : TypeId} {pos : String} {after : Array Edge} {a : Act} {w : World} {Q : Exit → Act → World → Prop} {x : Operand} {K : Act → World → Prop} (b : Nat) (c : S8) (hr : RowAt w b c.cells 29) (hx : a.eval x = .pointer (some ⟨b, 0, none⟩))
    (k : K (a.put dst (.agg c.cells)) w) : Oper.wp Tryd.prog ⟨dst, .load 29 x, ty, pos, after, none⟩ a w K Q :=
  wp_load_row 29 x rfl b hx _ c.cells (0, 0) _ hr Tryd.underlying29 rfl size_state k
theorem cs_read_bl (s : S8) (hs : s.Ok) (a : Int) (l : Nat) (hl : l < 4294967296) (w : World) :
    Calls Tryd.prog 52 #[.agg s.cells, .int .i64 a, .int .u32 l] w fun e w' => e = .returned (readV (readN s a l)) ∧ Below w.heap.size w w' :=
  (cs_read_any s hs a l hl w).mono fun e w' ⟨he, o, hw⟩ => ⟨he, hw ▸ below_one w o⟩
theorem cs_write_bl (s : S8) (hs : s.Ok) (a : Int) (v : Nat) (hv : v < 4294967296) (w : World) :
    Calls Tryd.prog 53 #[.agg s.cells, .int .i64 a, .int .u32 v] w fun e w' => e = .returned (.tuple #[.agg (writeN s a v).1.cells, errW (writeN s a v).2]) ∧ Below w.heap.size w w' :=
  (cs_write_any s hs a v hv w).mono fun e w' ⟨he, o, o', hw⟩ => ⟨he, hw ▸ below_two w o o'⟩
theorem mixN_lt (op : Nat) {old v : Nat} (h : old < 4294967296) (h' : v < 4294967296) : mixN op old v < 4294967296 := by
  unfold mixN
  split
  · exact or_lt32 h h'
  · split
    · exact and_lt h
    · exact h'

set_option maxHeartbeats 2000000 in
theorem control_51nB (h : H) (ok : h.Ok) (rd s1 s2 : Nat) (im cs : Int) (hrd : rd < 32) (h1 : s1 < 32) (v l : Nat) (hl : l < 4294967296) (h0 : rd = 0) (c : S8) (k : Nat) (hW : writeN h.c cs (mixN 51 0 (h.x s1)) = (c, k + 1)) (w : World) :
    Calls Tryd.prog 26 #[.agg h.cells, .agg (I6.cells ⟨51, (rd : Nat), (s1 : Nat), (s2 : Nat), im, cs⟩), .int .u32 v, .int .u32 l] w fun e w' => e = .returned (.agg (trapH h 2 v).cells) ∧ Below w.heap.size w w' := by
  have b1 : (0 : Int) ≤ s1 := by omega
  have b2 : (s1 : Int) < 32 := by omega
  subst h0
  have HM : Hid (∀ z : Int, z = (((h.x s1) : Nat) : Int) → ∀ w, Calls Tryd.prog 54 #[.int .i64 51, .int .u32 0, .int .u32 z] w fun e w' => e = .returned (.int .u32 ((mixN 51 0 (h.x s1)) : Nat)) ∧ w' = w) := hide (fun z hz w => by rw [hz]; exact mixed_51 0 (h.x s1) (by decide : 0 < 4294967296) (ok.x s1) w)
  have HW := hide (fun w => cs_write_bl h.c ok.c cs (mixN 51 0 (h.x s1)) (mixN_lt 51 (by decide : 0 < 4294967296) (ok.x s1)) w)
  rw [hW] at HW
  simp only [errW] at HW
  clear hW
  generalize (mixN 51 0 (h.x s1)) = M at HM HW
  have HT := hide (fun w => trap_any h ok 2 v (by decide) w)
  rw [show (((2 : Nat) : Int)) = 2 from rfl] at HT
  go_enter Tryd.func26, Tryd.ntmps26
  go_wp2_with (first | ((with_reducible refine bx_h w.heap.size h ?_ ?_ ?_); exact rfl; exact rfl; intro W hr hb hz) | ((with_reducible refine bx_i (w.heap.size + 1) ⟨51, ((0 : Nat) : Int), (s1 : Nat), (s2 : Nat), im, cs⟩ ?_ ?_ ?_); exact hz.out; exact rfl; intro W hi hb' hz'; obtain ⟨hr, hb⟩ := an1 hz hb' hr hb; replace hz := hz') | ((with_reducible refine al_h (w.heap.size + 2) ?_ ?_); exact hz.out; intro W hq hb' hz'; obtain ⟨hr, hi, hb⟩ := an2 hz hb' hr hi hb; replace hz := hz'; obtain ⟨qa, qb, qc⟩ := q3 hi) | ((with_reducible refine al_c (w.heap.size + 3) ?_ ?_); exact hz.out; intro W hc2 hb' hz'; obtain ⟨hr, hi, hq, hb⟩ := an3 hz hb' hr hi hq hb; replace hz := hz'; obtain ⟨qa, qb, qc⟩ := q3 hi) | ((with_reducible refine st_s (w.heap.size + 3) _ h.c hc2 ?_ ?_ ?_); exact rfl; exact rfl; intro W hnew ho; obtain ⟨hr, hi, hq, hb⟩ := on3 ho hr hi hq hb; replace hc2 := hnew; obtain ⟨qa, qb, qc⟩ := q3 hi) | ((with_reducible refine ld_h w.heap.size _ hr ?_ ?_); exact rfl) | ((with_reducible refine ld_c w.heap.size _ hr ?_ ?_); exact rfl) | ((with_reducible refine ld_s (w.heap.size + 3) _ hc2 ?_ ?_); exact rfl) | ((with_reducible refine ld_op (w.heap.size + 1) _ hi ?_ ?_); exact rfl) | ((with_reducible refine ld_rd (w.heap.size + 1) _ hi ?_ ?_); exact rfl) | ((with_reducible refine ld_rs1 (w.heap.size + 1) _ hi ?_ ?_); exact rfl) | ((with_reducible refine ld_csr (w.heap.size + 1) _ hi ?_ ?_); exact rfl) | ((with_reducible refine ld_x w.heap.size s1 _ h1 hr ?_ ?_); exact rfl))
  refine wp_region_held_drew (S := (fun V => RowAt V w.heap.size h.cells 31 ∧ RowAt V (w.heap.size + 1) (I6.cells ⟨51, ((0 : Nat) : Int), (s1 : Nat), (s2 : Nat), im, cs⟩) 61 ∧ (RowAt V (w.heap.size + 3) h.c.cells 29 ∨ RowAt V (w.heap.size + 3) c.cells 29) ∧ Below w.heap.size w V)) (by kernel_rfl) ?_ (fun hHeld => ?_)
  · exact ⟨hr.dr, hi.dr, Or.inl hc2.dr, hb.drew⟩
  replace hq := hq.dr
  replace hc2 := hc2.dr
  refine tkO 1 (.pointer (some ⟨w.heap.size + 1, 5, none⟩)) (by simp only [gT, gZ, gS]; rfl) (puO (by (intro w hSw; (try dsimp only at hSw); go_simp))) ?_
  simp only [Act.put, pA, pZ, pS]
  refine tkO 2 (.int .i64 cs) (by simp only [gT, gZ, gS]; rfl) (y_int (w.heap.size + 1) 5 _ (fun V hV => (hV.2.1.cell 5).trans rfl) rfl) ?_
  simp only [Act.put, pA, pZ, pS]
  refine tkO 3 (.pointer (some ⟨w.heap.size + 1, 0, none⟩)) (by simp only [gT, gZ, gS]; rfl) (puO (by (intro w hSw; (try dsimp only at hSw); go_simp))) ?_
  simp only [Act.put, pA, pZ, pS]
  refine tkO 4 (.int .i64 51) (by simp only [gT, gZ, gS]; rfl) (y_int (w.heap.size + 1) 0 _ (fun V hV => (hV.2.1.cell 0).trans rfl) rfl) ?_
  simp only [Act.put, pA, pZ, pS]
  refine tkO 5 (.int .u32 0) (by simp only [gT, gZ, gS]; rfl) (puO (by (intro w hSw; (try dsimp only at hSw); go_simp))) ?_
  simp only [Act.put, pA, pZ, pS]
  refine tkO 6 (.int .u32 ((h.x s1) : Nat)) (by simp only [gT, gZ, gS]; rfl) (puO (by (intro w hSw; (try dsimp only at hSw); go_simp <;> omega))) ?_
  simp only [Act.put, pA, pZ, pS]
  refine wpAnyH_ready (rs := [0, 7]) (by kernel_rfl) (by simp) ?_
  refine AllReadyH.cons (o := ?oi7) ?hi7 (fun K hK => ?b7) (AllReadyH.cons (o := ?oi8) ?hi8 (fun K hK => ?b8) AllReadyH.nil)
  case hi7 => (simp only [List.getElem?_toArray, List.getElem?_cons_zero]; rfl)
  case hi8 => (simp only [List.getElem?_toArray, List.getElem?_cons_zero, List.getElem?_cons_succ]; rfl)
  case b7 =>
    rw [if_pos (by rfl)]
    (with_reducible refine w_ld_s (w.heap.size + 3) h.c hc2 ?_ ?_)
    · exact rfl
    simp only [Act.put, pA, pZ, pS]
    refine hK.out _ _ ?_ (fun hHeld => ?_)
    · exact hHeld
    clear hK K
    refine skO 7 (by simp only [gT, gZ, gS]; rfl) (fun K hK => ?_)
    go_simp
    refine (HM.out _ ?_ _).mono ?_
    · first | rfl | omega
    rintro e V ⟨rfl, rfl⟩
    go_simp
    refine hK.out _ _ ?_ (fun hHeld => ?_)
    · exact hHeld
    clear hK K
    refine skO 8 (by simp only [gT, gZ, gS]; rfl) (fun K hK => ?_)
    go_simp
    refine (HW.out _).mono ?_
    rintro e V ⟨rfl, hbc⟩
    replace hr := hHeld.1.bl hbc
    replace hi := hHeld.2.1.bl hbc
    replace hb := below_bl rfl hHeld.2.2.2 hbc
    replace hq := hq.bl hbc
    replace hc2 := hc2.bl hbc
    clear hHeld
    go_simp
    refine hK.out _ _ ?_ (fun hHeld => ?_)
    · exact ⟨hr, hi, Or.inl hc2, hb⟩
    clear hK K
    refine tkO 9 (.tuple #[.agg c.cells, (.iface 89 (.int .i64 ((k : Int) + 1)))]) (by simp only [gT, gZ, gS]; rfl) (puO (by (intro w hSw; (try dsimp only at hSw); go_simp))) ?_
    simp only [Act.put, pA, pZ, pS]
    refine tkO 10 (.agg c.cells) (by simp only [gT, gZ, gS]; rfl) (puO (by (intro w hSw; (try dsimp only at hSw); go_simp))) ?_
    simp only [Act.put, pA, pZ, pS]
    refine tkO 11 ((.iface 89 (.int .i64 ((k : Int) + 1)))) (by simp only [gT, gZ, gS]; rfl) (puO (by (intro w hSw; (try dsimp only at hSw); go_simp))) ?_
    simp only [Act.put, pA, pZ, pS]
    refine skO 12 (by simp only [gT, gZ, gS]; rfl) (fun K hK => ?_)
    rw [if_pos (by rfl)]
    (with_reducible refine s_s (w.heap.size + 3) _ c hc2 ?_ ?_ ?_)
    · exact rfl
    · exact rfl
    intro W hnew ho
    replace hr := hr.only ho (by omega)
    replace hi := hi.only ho (by omega)
    replace hq := hq.only ho (by omega)
    replace hb := ho.bel _ _ (by omega) hb
    replace hc2 := hnew
    clear hHeld
    refine hK.out _ _ ?_ (fun hHeld => ?_)
    · exact ⟨hr, hi, Or.inr hc2, hb⟩
    clear hK K
    refine tkO 13 ((.iface 89 (.int .i64 ((k : Int) + 1)))) (by simp only [gT, gZ, gS]; rfl) (puO (by (intro w hSw; (try dsimp only at hSw); go_simp))) ?_
    simp only [Act.put, pA, pZ, pS]
    refine wpAnyH_done (by kernel_rfl) ?_ _
    have qa : W.cell? ⟨w.heap.size + 1, 0, none⟩ = some (.int .i64 51) := hi.cell 0
    have qb : W.cell? ⟨w.heap.size + 1, 1, none⟩ = some (.int .i64 0) := hi.cell 1
    have qc : W.cell? ⟨w.heap.size + 1, 2, none⟩ = some (.int .i64 (s1 : Nat)) := hi.cell 2
    go_wp2_with (first | ((with_reducible refine ld_h w.heap.size _ hr ?_ ?_); exact rfl) | ((with_reducible refine ld_c w.heap.size _ hr ?_ ?_); exact rfl) | ((with_reducible refine ld_s (w.heap.size + 3) _ hc2 ?_ ?_); exact rfl) | ((with_reducible refine ld_op (w.heap.size + 1) _ hi ?_ ?_); exact rfl) | ((with_reducible refine ld_rd (w.heap.size + 1) _ hi ?_ ?_); exact rfl) | ((with_reducible refine ld_rs1 (w.heap.size + 1) _ hi ?_ ?_); exact rfl) | ((with_reducible refine ld_csr (w.heap.size + 1) _ hi ?_ ?_); exact rfl) | ((with_reducible refine ld_x w.heap.size s1 _ h1 hr ?_ ?_); exact rfl) | (go_at_call 22; refine (HT.out _).mono ?_; rintro e W ⟨rfl, hbc⟩; obtain ⟨hr, hi, hq, hc2, hb⟩ := bl4 hbc hr hi hq hc2 hb) | ((with_reducible refine st_h (w.heap.size + 2) _ (trapH h 2 v) hq ?_ ?_ ?_); exact rfl; exact rfl; intro W hnew ho; obtain ⟨hr, hi, hc2, hb⟩ := on3 ho hr hi hc2 hb; replace hq := hnew))
    refine bodyPost_ret (results_cell_row Tryd.results26 _ _ (w.heap.size + 2) _ _ _ _ rfl hq Tryd.underlying31 rfl size_hart) rfl ?_
    exact ⟨rfl, hb⟩
  case b8 =>
    go_simp
    refine (HM.out _ ?_ _).mono ?_
    · first | rfl | omega
    rintro e V ⟨rfl, rfl⟩
    go_simp
    refine hK.out _ _ ?_ (fun hHeld => ?_)
    · exact hHeld
    clear hK K
    refine skO 0 (by simp only [gT, gZ]; rfl) (fun K hK => ?_)
    rw [if_pos (by rfl)]
    (with_reducible refine w_ld_s (w.heap.size + 3) h.c hc2 ?_ ?_)
    · exact rfl
    simp only [Act.put, pA, pZ, pS]
    refine hK.out _ _ ?_ (fun hHeld => ?_)
    · exact hHeld
    clear hK K
    refine skO 8 (by simp only [gT, gZ, gS]; rfl) (fun K hK => ?_)
    go_simp
    refine (HW.out _).mono ?_
    rintro e V ⟨rfl, hbc⟩
    replace hr := hHeld.1.bl hbc
    replace hi := hHeld.2.1.bl hbc
    replace hb := below_bl rfl hHeld.2.2.2 hbc
    replace hq := hq.bl hbc
    replace hc2 := hc2.bl hbc
    clear hHeld
    go_simp
    refine hK.out _ _ ?_ (fun hHeld => ?_)
    · exact ⟨hr, hi, Or.inl hc2, hb⟩
    clear hK K
    refine tkO 9 (.tuple #[.agg c.cells, (.iface 89 (.int .i64 ((k : Int) + 1)))]) (by simp only [gT, gZ, gS]; rfl) (puO (by (intro w hSw; (try dsimp only at hSw); go_simp))) ?_
    simp only [Act.put, pA, pZ, pS]
    refine tkO 10 (.agg c.cells) (by simp only [gT, gZ, gS]; rfl) (puO (by (intro w hSw; (try dsimp only at hSw); go_simp))) ?_
    simp only [Act.put, pA, pZ, pS]
    refine tkO 11 ((.iface 89 (.int .i64 ((k : Int) + 1)))) (by simp only [gT, gZ, gS]; rfl) (puO (by (intro w hSw; (try dsimp only at hSw); go_simp))) ?_
    simp only [Act.put, pA, pZ, pS]
    refine skO 12 (by simp only [gT, gZ, gS]; rfl) (fun K hK => ?_)
    rw [if_pos (by rfl)]
    (with_reducible refine s_s (w.heap.size + 3) _ c hc2 ?_ ?_ ?_)
    · exact rfl
    · exact rfl
    intro W hnew ho
    replace hr := hr.only ho (by omega)
    replace hi := hi.only ho (by omega)
    replace hq := hq.only ho (by omega)
    replace hb := ho.bel _ _ (by omega) hb
    replace hc2 := hnew
    clear hHeld
    refine hK.out _ _ ?_ (fun hHeld => ?_)
    · exact ⟨hr, hi, Or.inr hc2, hb⟩
    clear hK K
    refine tkO 13 ((.iface 89 (.int .i64 ((k : Int) + 1)))) (by simp only [gT, gZ, gS]; rfl) (puO (by (intro w hSw; (try dsimp only at hSw); go_simp))) ?_
    simp only [Act.put, pA, pZ, pS]
    refine wpAnyH_done (by kernel_rfl) ?_ _
    have qa : W.cell? ⟨w.heap.size + 1, 0, none⟩ = some (.int .i64 51) := hi.cell 0
    have qb : W.cell? ⟨w.heap.size + 1, 1, none⟩ = some (.int .i64 0) := hi.cell 1
    have qc : W.cell? ⟨w.heap.size + 1, 2, none⟩ = some (.int .i64 (s1 : Nat)) := hi.cell 2
    go_wp2_with (first | ((with_reducible refine ld_h w.heap.size _ hr ?_ ?_); exact rfl) | ((with_reducible refine ld_c w.heap.size _ hr ?_ ?_); exact rfl) | ((with_reducible refine ld_s (w.heap.size + 3) _ hc2 ?_ ?_); exact rfl) | ((with_reducible refine ld_op (w.heap.size + 1) _ hi ?_ ?_); exact rfl) | ((with_reducible refine ld_rd (w.heap.size + 1) _ hi ?_ ?_); exact rfl) | ((with_reducible refine ld_rs1 (w.heap.size + 1) _ hi ?_ ?_); exact rfl) | ((with_reducible refine ld_csr (w.heap.size + 1) _ hi ?_ ?_); exact rfl) | ((with_reducible refine ld_x w.heap.size s1 _ h1 hr ?_ ?_); exact rfl) | (go_at_call 22; refine (HT.out _).mono ?_; rintro e W ⟨rfl, hbc⟩; obtain ⟨hr, hi, hq, hc2, hb⟩ := bl4 hbc hr hi hq hc2 hb) | ((with_reducible refine st_h (w.heap.size + 2) _ (trapH h 2 v) hq ?_ ?_ ?_); exact rfl; exact rfl; intro W hnew ho; obtain ⟨hr, hi, hc2, hb⟩ := on3 ho hr hi hc2 hb; replace hq := hnew))
    refine bodyPost_ret (results_cell_row Tryd.results26 _ _ (w.heap.size + 2) _ _ _ _ rfl hq Tryd.underlying31 rfl size_hart) rfl ?_
    exact ⟨rfl, hb⟩

set_option maxHeartbeats 2000000 in
theorem control_51nC (h : H) (ok : h.Ok) (rd s1 s2 : Nat) (im cs : Int) (hrd : rd < 32) (h1 : s1 < 32) (v l : Nat) (hl : l < 4294967296) (h0 : rd = 0) (c : S8) (hc : c.Ok) (hW : writeN h.c cs (mixN 51 0 (h.x s1)) = (c, 0)) (w : World) :
    Calls Tryd.prog 26 #[.agg h.cells, .agg (I6.cells ⟨51, (rd : Nat), (s1 : Nat), (s2 : Nat), im, cs⟩), .int .u32 v, .int .u32 l] w fun e w' => e = .returned (.agg (nextH (writeH (withC h c) 0 0)).cells) ∧ Below w.heap.size w w' := by
  have b1 : (0 : Int) ≤ s1 := by omega
  have b2 : (s1 : Int) < 32 := by omega
  subst h0
  have HM : Hid (∀ z : Int, z = (((h.x s1) : Nat) : Int) → ∀ w, Calls Tryd.prog 54 #[.int .i64 51, .int .u32 0, .int .u32 z] w fun e w' => e = .returned (.int .u32 ((mixN 51 0 (h.x s1)) : Nat)) ∧ w' = w) := hide (fun z hz w => by rw [hz]; exact mixed_51 0 (h.x s1) (by decide : 0 < 4294967296) (ok.x s1) w)
  have HW := hide (fun w => cs_write_bl h.c ok.c cs (mixN 51 0 (h.x s1)) (mixN_lt 51 (by decide : 0 < 4294967296) (ok.x s1)) w)
  rw [hW] at HW
  simp only [errW] at HW
  clear hW
  generalize (mixN 51 0 (h.x s1)) = M at HM HW
  have ok' : H.Ok (withC h c) := ⟨ok.pc, ok.x, hc⟩
  have HWr := hide (fun w => write_any (withC h c) 0 (by decide) 0 w)
  have HN := hide (fun w => next_any _ (writeH_ok ok' 0 (by decide : 0 < 4294967296)) w)
  rw [show (((0 : Nat) : Int)) = 0 from rfl] at HWr
  go_enter Tryd.func26, Tryd.ntmps26
  go_wp2_with (first | ((with_reducible refine bx_h w.heap.size h ?_ ?_ ?_); exact rfl; exact rfl; intro W hr hb hz) | ((with_reducible refine bx_i (w.heap.size + 1) ⟨51, ((0 : Nat) : Int), (s1 : Nat), (s2 : Nat), im, cs⟩ ?_ ?_ ?_); exact hz.out; exact rfl; intro W hi hb' hz'; obtain ⟨hr, hb⟩ := an1 hz hb' hr hb; replace hz := hz') | ((with_reducible refine al_h (w.heap.size + 2) ?_ ?_); exact hz.out; intro W hq hb' hz'; obtain ⟨hr, hi, hb⟩ := an2 hz hb' hr hi hb; replace hz := hz'; obtain ⟨qa, qb, qc⟩ := q3 hi) | ((with_reducible refine al_c (w.heap.size + 3) ?_ ?_); exact hz.out; intro W hc2 hb' hz'; obtain ⟨hr, hi, hq, hb⟩ := an3 hz hb' hr hi hq hb; replace hz := hz'; obtain ⟨qa, qb, qc⟩ := q3 hi) | ((with_reducible refine st_s (w.heap.size + 3) _ h.c hc2 ?_ ?_ ?_); exact rfl; exact rfl; intro W hnew ho; obtain ⟨hr, hi, hq, hb⟩ := on3 ho hr hi hq hb; replace hc2 := hnew; obtain ⟨qa, qb, qc⟩ := q3 hi) | ((with_reducible refine ld_h w.heap.size _ hr ?_ ?_); exact rfl) | ((with_reducible refine ld_c w.heap.size _ hr ?_ ?_); exact rfl) | ((with_reducible refine ld_s (w.heap.size + 3) _ hc2 ?_ ?_); exact rfl) | ((with_reducible refine ld_op (w.heap.size + 1) _ hi ?_ ?_); exact rfl) | ((with_reducible refine ld_rd (w.heap.size + 1) _ hi ?_ ?_); exact rfl) | ((with_reducible refine ld_rs1 (w.heap.size + 1) _ hi ?_ ?_); exact rfl) | ((with_reducible refine ld_csr (w.heap.size + 1) _ hi ?_ ?_); exact rfl) | ((with_reducible refine ld_x w.heap.size s1 _ h1 hr ?_ ?_); exact rfl))
  refine wp_region_held_drew (S := (fun V => RowAt V w.heap.size h.cells 31 ∧ RowAt V (w.heap.size + 1) (I6.cells ⟨51, ((0 : Nat) : Int), (s1 : Nat), (s2 : Nat), im, cs⟩) 61 ∧ (RowAt V (w.heap.size + 3) h.c.cells 29 ∨ RowAt V (w.heap.size + 3) c.cells 29) ∧ Below w.heap.size w V)) (by kernel_rfl) ?_ (fun hHeld => ?_)
  · exact ⟨hr.dr, hi.dr, Or.inl hc2.dr, hb.drew⟩
  replace hq := hq.dr
  replace hc2 := hc2.dr
  refine tkO 1 (.pointer (some ⟨w.heap.size + 1, 5, none⟩)) (by simp only [gT, gZ, gS]; rfl) (puO (by (intro w hSw; (try dsimp only at hSw); go_simp))) ?_
  simp only [Act.put, pA, pZ, pS]
  refine tkO 2 (.int .i64 cs) (by simp only [gT, gZ, gS]; rfl) (y_int (w.heap.size + 1) 5 _ (fun V hV => (hV.2.1.cell 5).trans rfl) rfl) ?_
  simp only [Act.put, pA, pZ, pS]
  refine tkO 3 (.pointer (some ⟨w.heap.size + 1, 0, none⟩)) (by simp only [gT, gZ, gS]; rfl) (puO (by (intro w hSw; (try dsimp only at hSw); go_simp))) ?_
  simp only [Act.put, pA, pZ, pS]
  refine tkO 4 (.int .i64 51) (by simp only [gT, gZ, gS]; rfl) (y_int (w.heap.size + 1) 0 _ (fun V hV => (hV.2.1.cell 0).trans rfl) rfl) ?_
  simp only [Act.put, pA, pZ, pS]
  refine tkO 5 (.int .u32 0) (by simp only [gT, gZ, gS]; rfl) (puO (by (intro w hSw; (try dsimp only at hSw); go_simp))) ?_
  simp only [Act.put, pA, pZ, pS]
  refine tkO 6 (.int .u32 ((h.x s1) : Nat)) (by simp only [gT, gZ, gS]; rfl) (puO (by (intro w hSw; (try dsimp only at hSw); go_simp <;> omega))) ?_
  simp only [Act.put, pA, pZ, pS]
  refine wpAnyH_ready (rs := [0, 7]) (by kernel_rfl) (by simp) ?_
  refine AllReadyH.cons (o := ?oi29) ?hi29 (fun K hK => ?b29) (AllReadyH.cons (o := ?oi30) ?hi30 (fun K hK => ?b30) AllReadyH.nil)
  case hi29 => (simp only [List.getElem?_toArray, List.getElem?_cons_zero]; rfl)
  case hi30 => (simp only [List.getElem?_toArray, List.getElem?_cons_zero, List.getElem?_cons_succ]; rfl)
  case b29 =>
    rw [if_pos (by rfl)]
    (with_reducible refine w_ld_s (w.heap.size + 3) h.c hc2 ?_ ?_)
    · exact rfl
    simp only [Act.put, pA, pZ, pS]
    refine hK.out _ _ ?_ (fun hHeld => ?_)
    · exact hHeld
    clear hK K
    refine skO 7 (by simp only [gT, gZ, gS]; rfl) (fun K hK => ?_)
    go_simp
    refine (HM.out _ ?_ _).mono ?_
    · first | rfl | omega
    rintro e V ⟨rfl, rfl⟩
    go_simp
    refine hK.out _ _ ?_ (fun hHeld => ?_)
    · exact hHeld
    clear hK K
    refine skO 8 (by simp only [gT, gZ, gS]; rfl) (fun K hK => ?_)
    go_simp
    refine (HW.out _).mono ?_
    rintro e V ⟨rfl, hbc⟩
    replace hr := hHeld.1.bl hbc
    replace hi := hHeld.2.1.bl hbc
    replace hb := below_bl rfl hHeld.2.2.2 hbc
    replace hq := hq.bl hbc
    replace hc2 := hc2.bl hbc
    clear hHeld
    go_simp
    refine hK.out _ _ ?_ (fun hHeld => ?_)
    · exact ⟨hr, hi, Or.inl hc2, hb⟩
    clear hK K
    refine tkO 9 (.tuple #[.agg c.cells, .nilIface]) (by simp only [gT, gZ, gS]; rfl) (puO (by (intro w hSw; (try dsimp only at hSw); go_simp))) ?_
    simp only [Act.put, pA, pZ, pS]
    refine tkO 10 (.agg c.cells) (by simp only [gT, gZ, gS]; rfl) (puO (by (intro w hSw; (try dsimp only at hSw); go_simp))) ?_
    simp only [Act.put, pA, pZ, pS]
    refine tkO 11 (.nilIface) (by simp only [gT, gZ, gS]; rfl) (puO (by (intro w hSw; (try dsimp only at hSw); go_simp))) ?_
    simp only [Act.put, pA, pZ, pS]
    refine skO 12 (by simp only [gT, gZ, gS]; rfl) (fun K hK => ?_)
    rw [if_pos (by rfl)]
    (with_reducible refine s_s (w.heap.size + 3) _ c hc2 ?_ ?_ ?_)
    · exact rfl
    · exact rfl
    intro W hnew ho
    replace hr := hr.only ho (by omega)
    replace hi := hi.only ho (by omega)
    replace hq := hq.only ho (by omega)
    replace hb := ho.bel _ _ (by omega) hb
    replace hc2 := hnew
    clear hHeld
    refine hK.out _ _ ?_ (fun hHeld => ?_)
    · exact ⟨hr, hi, Or.inr hc2, hb⟩
    clear hK K
    refine tkO 13 (.nilIface) (by simp only [gT, gZ, gS]; rfl) (puO (by (intro w hSw; (try dsimp only at hSw); go_simp))) ?_
    simp only [Act.put, pA, pZ, pS]
    refine wpAnyH_done (by kernel_rfl) ?_ _
    have qa : W.cell? ⟨w.heap.size + 1, 0, none⟩ = some (.int .i64 51) := hi.cell 0
    have qb : W.cell? ⟨w.heap.size + 1, 1, none⟩ = some (.int .i64 0) := hi.cell 1
    have qc : W.cell? ⟨w.heap.size + 1, 2, none⟩ = some (.int .i64 (s1 : Nat)) := hi.cell 2
    go_wp2_with (first | ((with_reducible refine ld_h w.heap.size _ hr ?_ ?_); exact rfl) | ((with_reducible refine ld_c w.heap.size _ hr ?_ ?_); exact rfl) | ((with_reducible refine ld_s (w.heap.size + 3) _ hc2 ?_ ?_); exact rfl) | ((with_reducible refine ld_op (w.heap.size + 1) _ hi ?_ ?_); exact rfl) | ((with_reducible refine ld_rd (w.heap.size + 1) _ hi ?_ ?_); exact rfl) | ((with_reducible refine ld_rs1 (w.heap.size + 1) _ hi ?_ ?_); exact rfl) | ((with_reducible refine ld_csr (w.heap.size + 1) _ hi ?_ ?_); exact rfl) | ((with_reducible refine ld_x w.heap.size s1 _ h1 hr ?_ ?_); exact rfl) | ((with_reducible refine st_c w.heap.size _ c hr ?_ ?_ ?_); exact rfl; exact rfl; intro W hnew ho; obtain ⟨hi, hq, hc2, hb⟩ := on3 ho hi hq hc2 hb; replace hr := hnew) | (go_at_call 46; refine (HWr.out _).mono ?_; rintro e W ⟨rfl, hbc⟩; obtain ⟨hr, hi, hq, hc2, hb⟩ := bl4 hbc hr hi hq hc2 hb) | (go_at_call 45; refine (HN.out _).mono ?_; rintro e W ⟨rfl, hbc⟩; obtain ⟨hr, hi, hq, hc2, hb⟩ := bl4 hbc hr hi hq hc2 hb) | ((with_reducible refine st_h (w.heap.size + 2) _ (nextH (writeH (withC h c) 0 0)) hq ?_ ?_ ?_); exact rfl; exact rfl; intro W hnew ho; obtain ⟨hr, hi, hc2, hb⟩ := on3 ho hr hi hc2 hb; replace hq := hnew))
    refine bodyPost_ret (results_cell_row Tryd.results26 _ _ (w.heap.size + 2) _ _ _ _ rfl hq Tryd.underlying31 rfl size_hart) rfl ?_
    exact ⟨rfl, hb⟩
  case b30 =>
    go_simp
    refine (HM.out _ ?_ _).mono ?_
    · first | rfl | omega
    rintro e V ⟨rfl, rfl⟩
    go_simp
    refine hK.out _ _ ?_ (fun hHeld => ?_)
    · exact hHeld
    clear hK K
    refine skO 0 (by simp only [gT, gZ]; rfl) (fun K hK => ?_)
    rw [if_pos (by rfl)]
    (with_reducible refine w_ld_s (w.heap.size + 3) h.c hc2 ?_ ?_)
    · exact rfl
    simp only [Act.put, pA, pZ, pS]
    refine hK.out _ _ ?_ (fun hHeld => ?_)
    · exact hHeld
    clear hK K
    refine skO 8 (by simp only [gT, gZ, gS]; rfl) (fun K hK => ?_)
    go_simp
    refine (HW.out _).mono ?_
    rintro e V ⟨rfl, hbc⟩
    replace hr := hHeld.1.bl hbc
    replace hi := hHeld.2.1.bl hbc
    replace hb := below_bl rfl hHeld.2.2.2 hbc
    replace hq := hq.bl hbc
    replace hc2 := hc2.bl hbc
    clear hHeld
    go_simp
    refine hK.out _ _ ?_ (fun hHeld => ?_)
    · exact ⟨hr, hi, Or.inl hc2, hb⟩
    clear hK K
    refine tkO 9 (.tuple #[.agg c.cells, .nilIface]) (by simp only [gT, gZ, gS]; rfl) (puO (by (intro w hSw; (try dsimp only at hSw); go_simp))) ?_
    simp only [Act.put, pA, pZ, pS]
    refine tkO 10 (.agg c.cells) (by simp only [gT, gZ, gS]; rfl) (puO (by (intro w hSw; (try dsimp only at hSw); go_simp))) ?_
    simp only [Act.put, pA, pZ, pS]
    refine tkO 11 (.nilIface) (by simp only [gT, gZ, gS]; rfl) (puO (by (intro w hSw; (try dsimp only at hSw); go_simp))) ?_
    simp only [Act.put, pA, pZ, pS]
    refine skO 12 (by simp only [gT, gZ, gS]; rfl) (fun K hK => ?_)
    rw [if_pos (by rfl)]
    (with_reducible refine s_s (w.heap.size + 3) _ c hc2 ?_ ?_ ?_)
    · exact rfl
    · exact rfl
    intro W hnew ho
    replace hr := hr.only ho (by omega)
    replace hi := hi.only ho (by omega)
    replace hq := hq.only ho (by omega)
    replace hb := ho.bel _ _ (by omega) hb
    replace hc2 := hnew
    clear hHeld
    refine hK.out _ _ ?_ (fun hHeld => ?_)
    · exact ⟨hr, hi, Or.inr hc2, hb⟩
    clear hK K
    refine tkO 13 (.nilIface) (by simp only [gT, gZ, gS]; rfl) (puO (by (intro w hSw; (try dsimp only at hSw); go_simp))) ?_
    simp only [Act.put, pA, pZ, pS]
    refine wpAnyH_done (by kernel_rfl) ?_ _
    have qa : W.cell? ⟨w.heap.size + 1, 0, none⟩ = some (.int .i64 51) := hi.cell 0
    have qb : W.cell? ⟨w.heap.size + 1, 1, none⟩ = some (.int .i64 0) := hi.cell 1
    have qc : W.cell? ⟨w.heap.size + 1, 2, none⟩ = some (.int .i64 (s1 : Nat)) := hi.cell 2
    go_wp2_with (first | ((with_reducible refine ld_h w.heap.size _ hr ?_ ?_); exact rfl) | ((with_reducible refine ld_c w.heap.size _ hr ?_ ?_); exact rfl) | ((with_reducible refine ld_s (w.heap.size + 3) _ hc2 ?_ ?_); exact rfl) | ((with_reducible refine ld_op (w.heap.size + 1) _ hi ?_ ?_); exact rfl) | ((with_reducible refine ld_rd (w.heap.size + 1) _ hi ?_ ?_); exact rfl) | ((with_reducible refine ld_rs1 (w.heap.size + 1) _ hi ?_ ?_); exact rfl) | ((with_reducible refine ld_csr (w.heap.size + 1) _ hi ?_ ?_); exact rfl) | ((with_reducible refine ld_x w.heap.size s1 _ h1 hr ?_ ?_); exact rfl) | ((with_reducible refine st_c w.heap.size _ c hr ?_ ?_ ?_); exact rfl; exact rfl; intro W hnew ho; obtain ⟨hi, hq, hc2, hb⟩ := on3 ho hi hq hc2 hb; replace hr := hnew) | (go_at_call 46; refine (HWr.out _).mono ?_; rintro e W ⟨rfl, hbc⟩; obtain ⟨hr, hi, hq, hc2, hb⟩ := bl4 hbc hr hi hq hc2 hb) | (go_at_call 45; refine (HN.out _).mono ?_; rintro e W ⟨rfl, hbc⟩; obtain ⟨hr, hi, hq, hc2, hb⟩ := bl4 hbc hr hi hq hc2 hb) | ((with_reducible refine st_h (w.heap.size + 2) _ (nextH (writeH (withC h c) 0 0)) hq ?_ ?_ ?_); exact rfl; exact rfl; intro W hnew ho; obtain ⟨hr, hi, hc2, hb⟩ := on3 ho hr hi hc2 hb; replace hq := hnew))
    refine bodyPost_ret (results_cell_row Tryd.results26 _ _ (w.heap.size + 2) _ _ _ _ rfl hq Tryd.underlying31 rfl size_hart) rfl ?_
    exact ⟨rfl, hb⟩

set_option maxHeartbeats 2000000 in
theorem control_51rA (h : H) (ok : h.Ok) (rd s1 s2 : Nat) (im cs : Int) (hrd : rd < 32) (h1 : s1 < 32) (v l : Nat) (hl : l < 4294967296) (h0 : rd ≠ 0) (hR : readN h.c cs l = none) (w : World) :
    Calls Tryd.prog 26 #[.agg h.cells, .agg (I6.cells ⟨51, (rd : Nat), (s1 : Nat), (s2 : Nat), im, cs⟩), .int .u32 v, .int .u32 l] w fun e w' => e = .returned (.agg (trapH h 2 v).cells) ∧ Below w.heap.size w w' := by
  have b1 : (0 : Int) ≤ s1 := by omega
  have b2 : (s1 : Int) < 32 := by omega
  have t1 : ((rd : Int) != 0) = true := by simp; omega
  clear h0
  have HR := hide (fun w => cs_read_bl h.c ok.c cs l hl w)
  rw [hR] at HR
  simp only [readV] at HR
  clear hR
  have HT := hide (fun w => trap_any h ok 2 v (by decide) w)
  rw [show (((2 : Nat) : Int)) = 2 from rfl] at HT
  go_enter Tryd.func26, Tryd.ntmps26
  go_wp2_with (first | ((with_reducible refine bx_h w.heap.size h ?_ ?_ ?_); exact rfl; exact rfl; intro W hr hb hz) | ((with_reducible refine bx_i (w.heap.size + 1) ⟨51, (rd : Nat), (s1 : Nat), (s2 : Nat), im, cs⟩ ?_ ?_ ?_); exact hz.out; exact rfl; intro W hi hb' hz'; obtain ⟨hr, hb⟩ := an1 hz hb' hr hb; replace hz := hz') | ((with_reducible refine al_h (w.heap.size + 2) ?_ ?_); exact hz.out; intro W hq hb' hz'; obtain ⟨hr, hi, hb⟩ := an2 hz hb' hr hi hb; replace hz := hz'; obtain ⟨qa, qb, qc⟩ := q3 hi) | ((with_reducible refine al_c (w.heap.size + 3) ?_ ?_); exact hz.out; intro W hc2 hb' hz'; obtain ⟨hr, hi, hq, hb⟩ := an3 hz hb' hr hi hq hb; replace hz := hz'; obtain ⟨qa, qb, qc⟩ := q3 hi) | ((with_reducible refine st_s (w.heap.size + 3) _ h.c hc2 ?_ ?_ ?_); exact rfl; exact rfl; intro W hnew ho; obtain ⟨hr, hi, hq, hb⟩ := on3 ho hr hi hq hb; replace hc2 := hnew; obtain ⟨qa, qb, qc⟩ := q3 hi) | (go_at_call 52; refine (HR.out _).mono ?_; rintro e W ⟨rfl, hbc⟩; obtain ⟨hr, hi, hq, hc2, hb⟩ := bl4 hbc hr hi hq hc2 hb; obtain ⟨qa, qb, qc⟩ := q3 hi) | ((with_reducible refine ld_h w.heap.size _ hr ?_ ?_); exact rfl) | ((with_reducible refine ld_c w.heap.size _ hr ?_ ?_); exact rfl) | ((with_reducible refine ld_s (w.heap.size + 3) _ hc2 ?_ ?_); exact rfl) | ((with_reducible refine ld_op (w.heap.size + 1) _ hi ?_ ?_); exact rfl) | ((with_reducible refine ld_rd (w.heap.size + 1) _ hi ?_ ?_); exact rfl) | ((with_reducible refine ld_rs1 (w.heap.size + 1) _ hi ?_ ?_); exact rfl) | ((with_reducible refine ld_csr (w.heap.size + 1) _ hi ?_ ?_); exact rfl) | ((with_reducible refine ld_x w.heap.size s1 _ h1 hr ?_ ?_); exact rfl) | (go_at_call 22; refine (HT.out _).mono ?_; rintro e W ⟨rfl, hbc⟩; obtain ⟨hr, hi, hq, hc2, hb⟩ := bl4 hbc hr hi hq hc2 hb) | ((with_reducible refine st_h (w.heap.size + 2) _ (trapH h 2 v) hq ?_ ?_ ?_); exact rfl; exact rfl; intro W hnew ho; obtain ⟨hr, hi, hc2, hb⟩ := on3 ho hr hi hc2 hb; replace hq := hnew))
  refine bodyPost_ret (results_cell_row Tryd.results26 _ _ (w.heap.size + 2) _ _ _ _ rfl hq Tryd.underlying31 rfl size_hart) rfl ?_
  exact ⟨rfl, hb⟩

set_option maxHeartbeats 2000000 in
theorem control_51rB (h : H) (ok : h.Ok) (rd s1 s2 : Nat) (im cs : Int) (hrd : rd < 32) (h1 : s1 < 32) (v l : Nat) (hl : l < 4294967296) (h0 : rd ≠ 0) (old : Nat) (hold : old < 4294967296) (hR : readN h.c cs l = some old) (c : S8) (k : Nat) (hW : writeN h.c cs (mixN 51 old (h.x s1)) = (c, k + 1)) (w : World) :
    Calls Tryd.prog 26 #[.agg h.cells, .agg (I6.cells ⟨51, (rd : Nat), (s1 : Nat), (s2 : Nat), im, cs⟩), .int .u32 v, .int .u32 l] w fun e w' => e = .returned (.agg (trapH h 2 v).cells) ∧ Below w.heap.size w w' := by
  have b1 : (0 : Int) ≤ s1 := by omega
  have b2 : (s1 : Int) < 32 := by omega
  have t1 : ((rd : Int) != 0) = true := by simp; omega
  clear h0
  have HR := hide (fun w => cs_read_bl h.c ok.c cs l hl w)
  rw [hR] at HR
  simp only [readV] at HR
  clear hR
  have HM : Hid (∀ z : Int, z = (((h.x s1) : Nat) : Int) → ∀ w, Calls Tryd.prog 54 #[.int .i64 51, .int .u32 old, .int .u32 z] w fun e w' => e = .returned (.int .u32 ((mixN 51 old (h.x s1)) : Nat)) ∧ w' = w) := hide (fun z hz w => by rw [hz]; exact mixed_51 old (h.x s1) hold (ok.x s1) w)
  have HW := hide (fun w => cs_write_bl h.c ok.c cs (mixN 51 old (h.x s1)) (mixN_lt 51 hold (ok.x s1)) w)
  rw [hW] at HW
  simp only [errW] at HW
  clear hW
  generalize (mixN 51 old (h.x s1)) = M at HM HW
  have HT := hide (fun w => trap_any h ok 2 v (by decide) w)
  rw [show (((2 : Nat) : Int)) = 2 from rfl] at HT
  go_enter Tryd.func26, Tryd.ntmps26
  go_wp2_with (first | ((with_reducible refine bx_h w.heap.size h ?_ ?_ ?_); exact rfl; exact rfl; intro W hr hb hz) | ((with_reducible refine bx_i (w.heap.size + 1) ⟨51, (rd : Nat), (s1 : Nat), (s2 : Nat), im, cs⟩ ?_ ?_ ?_); exact hz.out; exact rfl; intro W hi hb' hz'; obtain ⟨hr, hb⟩ := an1 hz hb' hr hb; replace hz := hz') | ((with_reducible refine al_h (w.heap.size + 2) ?_ ?_); exact hz.out; intro W hq hb' hz'; obtain ⟨hr, hi, hb⟩ := an2 hz hb' hr hi hb; replace hz := hz'; obtain ⟨qa, qb, qc⟩ := q3 hi) | ((with_reducible refine al_c (w.heap.size + 3) ?_ ?_); exact hz.out; intro W hc2 hb' hz'; obtain ⟨hr, hi, hq, hb⟩ := an3 hz hb' hr hi hq hb; replace hz := hz'; obtain ⟨qa, qb, qc⟩ := q3 hi) | ((with_reducible refine st_s (w.heap.size + 3) _ h.c hc2 ?_ ?_ ?_); exact rfl; exact rfl; intro W hnew ho; obtain ⟨hr, hi, hq, hb⟩ := on3 ho hr hi hq hb; replace hc2 := hnew; obtain ⟨qa, qb, qc⟩ := q3 hi) | (go_at_call 52; refine (HR.out _).mono ?_; rintro e W ⟨rfl, hbc⟩; obtain ⟨hr, hi, hq, hc2, hb⟩ := bl4 hbc hr hi hq hc2 hb; obtain ⟨qa, qb, qc⟩ := q3 hi) | ((with_reducible refine ld_h w.heap.size _ hr ?_ ?_); exact rfl) | ((with_reducible refine ld_c w.heap.size _ hr ?_ ?_); exact rfl) | ((with_reducible refine ld_s (w.heap.size + 3) _ hc2 ?_ ?_); exact rfl) | ((with_reducible refine ld_op (w.heap.size + 1) _ hi ?_ ?_); exact rfl) | ((with_reducible refine ld_rd (w.heap.size + 1) _ hi ?_ ?_); exact rfl) | ((with_reducible refine ld_rs1 (w.heap.size + 1) _ hi ?_ ?_); exact rfl) | ((with_reducible refine ld_csr (w.heap.size + 1) _ hi ?_ ?_); exact rfl) | ((with_reducible refine ld_x w.heap.size s1 _ h1 hr ?_ ?_); exact rfl))
  refine wp_region_held_drew (S := (fun V => RowAt V w.heap.size h.cells 31 ∧ RowAt V (w.heap.size + 1) (I6.cells ⟨51, (rd : Nat), (s1 : Nat), (s2 : Nat), im, cs⟩) 61 ∧ (RowAt V (w.heap.size + 3) h.c.cells 29 ∨ RowAt V (w.heap.size + 3) c.cells 29) ∧ Below w.heap.size w V)) (by kernel_rfl) ?_ (fun hHeld => ?_)
  · exact ⟨hr.dr, hi.dr, Or.inl hc2.dr, hb.drew⟩
  replace hq := hq.dr
  replace hc2 := hc2.dr
  refine tkO 1 (.pointer (some ⟨w.heap.size + 1, 5, none⟩)) (by simp only [gT, gZ, gS]; rfl) (puO (by (intro w hSw; (try dsimp only at hSw); go_simp))) ?_
  simp only [Act.put, pA, pZ, pS]
  refine tkO 2 (.int .i64 cs) (by simp only [gT, gZ, gS]; rfl) (y_int (w.heap.size + 1) 5 _ (fun V hV => (hV.2.1.cell 5).trans rfl) rfl) ?_
  simp only [Act.put, pA, pZ, pS]
  refine tkO 3 (.pointer (some ⟨w.heap.size + 1, 0, none⟩)) (by simp only [gT, gZ, gS]; rfl) (puO (by (intro w hSw; (try dsimp only at hSw); go_simp))) ?_
  simp only [Act.put, pA, pZ, pS]
  refine tkO 4 (.int .i64 51) (by simp only [gT, gZ, gS]; rfl) (y_int (w.heap.size + 1) 0 _ (fun V hV => (hV.2.1.cell 0).trans rfl) rfl) ?_
  simp only [Act.put, pA, pZ, pS]
  refine tkO 5 (.int .u32 (old : Nat)) (by simp only [gT, gZ, gS]; rfl) (puO (by (intro w hSw; (try dsimp only at hSw); go_simp))) ?_
  simp only [Act.put, pA, pZ, pS]
  refine tkO 6 (.int .u32 ((h.x s1) : Nat)) (by simp only [gT, gZ, gS]; rfl) (puO (by (intro w hSw; (try dsimp only at hSw); go_simp <;> omega))) ?_
  simp only [Act.put, pA, pZ, pS]
  refine wpAnyH_ready (rs := [0, 7]) (by kernel_rfl) (by simp) ?_
  refine AllReadyH.cons (o := ?oi51) ?hi51 (fun K hK => ?b51) (AllReadyH.cons (o := ?oi52) ?hi52 (fun K hK => ?b52) AllReadyH.nil)
  case hi51 => (simp only [List.getElem?_toArray, List.getElem?_cons_zero]; rfl)
  case hi52 => (simp only [List.getElem?_toArray, List.getElem?_cons_zero, List.getElem?_cons_succ]; rfl)
  case b51 =>
    rw [if_pos (by rfl)]
    (with_reducible refine w_ld_s (w.heap.size + 3) h.c hc2 ?_ ?_)
    · exact rfl
    simp only [Act.put, pA, pZ, pS]
    refine hK.out _ _ ?_ (fun hHeld => ?_)
    · exact hHeld
    clear hK K
    refine skO 7 (by simp only [gT, gZ, gS]; rfl) (fun K hK => ?_)
    go_simp
    refine (HM.out _ ?_ _).mono ?_
    · first | rfl | omega
    rintro e V ⟨rfl, rfl⟩
    go_simp
    refine hK.out _ _ ?_ (fun hHeld => ?_)
    · exact hHeld
    clear hK K
    refine skO 8 (by simp only [gT, gZ, gS]; rfl) (fun K hK => ?_)
    go_simp
    refine (HW.out _).mono ?_
    rintro e V ⟨rfl, hbc⟩
    replace hr := hHeld.1.bl hbc
    replace hi := hHeld.2.1.bl hbc
    replace hb := below_bl rfl hHeld.2.2.2 hbc
    replace hq := hq.bl hbc
    replace hc2 := hc2.bl hbc
    clear hHeld
    go_simp
    refine hK.out _ _ ?_ (fun hHeld => ?_)
    · exact ⟨hr, hi, Or.inl hc2, hb⟩
    clear hK K
    refine tkO 9 (.tuple #[.agg c.cells, (.iface 89 (.int .i64 ((k : Int) + 1)))]) (by simp only [gT, gZ, gS]; rfl) (puO (by (intro w hSw; (try dsimp only at hSw); go_simp))) ?_
    simp only [Act.put, pA, pZ, pS]
    refine tkO 10 (.agg c.cells) (by simp only [gT, gZ, gS]; rfl) (puO (by (intro w hSw; (try dsimp only at hSw); go_simp))) ?_
    simp only [Act.put, pA, pZ, pS]
    refine tkO 11 ((.iface 89 (.int .i64 ((k : Int) + 1)))) (by simp only [gT, gZ, gS]; rfl) (puO (by (intro w hSw; (try dsimp only at hSw); go_simp))) ?_
    simp only [Act.put, pA, pZ, pS]
    refine skO 12 (by simp only [gT, gZ, gS]; rfl) (fun K hK => ?_)
    rw [if_pos (by rfl)]
    (with_reducible refine s_s (w.heap.size + 3) _ c hc2 ?_ ?_ ?_)
    · exact rfl
    · exact rfl
    intro W hnew ho
    replace hr := hr.only ho (by omega)
    replace hi := hi.only ho (by omega)
    replace hq := hq.only ho (by omega)
    replace hb := ho.bel _ _ (by omega) hb
    replace hc2 := hnew
    clear hHeld
    refine hK.out _ _ ?_ (fun hHeld => ?_)
    · exact ⟨hr, hi, Or.inr hc2, hb⟩
    clear hK K
    refine tkO 13 ((.iface 89 (.int .i64 ((k : Int) + 1)))) (by simp only [gT, gZ, gS]; rfl) (puO (by (intro w hSw; (try dsimp only at hSw); go_simp))) ?_
    simp only [Act.put, pA, pZ, pS]
    refine wpAnyH_done (by kernel_rfl) ?_ _
    have qa : W.cell? ⟨w.heap.size + 1, 0, none⟩ = some (.int .i64 51) := hi.cell 0
    have qb : W.cell? ⟨w.heap.size + 1, 1, none⟩ = some (.int .i64 (rd : Nat)) := hi.cell 1
    have qc : W.cell? ⟨w.heap.size + 1, 2, none⟩ = some (.int .i64 (s1 : Nat)) := hi.cell 2
    go_wp2_with (first | ((with_reducible refine ld_h w.heap.size _ hr ?_ ?_); exact rfl) | ((with_reducible refine ld_c w.heap.size _ hr ?_ ?_); exact rfl) | ((with_reducible refine ld_s (w.heap.size + 3) _ hc2 ?_ ?_); exact rfl) | ((with_reducible refine ld_op (w.heap.size + 1) _ hi ?_ ?_); exact rfl) | ((with_reducible refine ld_rd (w.heap.size + 1) _ hi ?_ ?_); exact rfl) | ((with_reducible refine ld_rs1 (w.heap.size + 1) _ hi ?_ ?_); exact rfl) | ((with_reducible refine ld_csr (w.heap.size + 1) _ hi ?_ ?_); exact rfl) | ((with_reducible refine ld_x w.heap.size s1 _ h1 hr ?_ ?_); exact rfl) | (go_at_call 22; refine (HT.out _).mono ?_; rintro e W ⟨rfl, hbc⟩; obtain ⟨hr, hi, hq, hc2, hb⟩ := bl4 hbc hr hi hq hc2 hb) | ((with_reducible refine st_h (w.heap.size + 2) _ (trapH h 2 v) hq ?_ ?_ ?_); exact rfl; exact rfl; intro W hnew ho; obtain ⟨hr, hi, hc2, hb⟩ := on3 ho hr hi hc2 hb; replace hq := hnew))
    refine bodyPost_ret (results_cell_row Tryd.results26 _ _ (w.heap.size + 2) _ _ _ _ rfl hq Tryd.underlying31 rfl size_hart) rfl ?_
    exact ⟨rfl, hb⟩
  case b52 =>
    go_simp
    refine (HM.out _ ?_ _).mono ?_
    · first | rfl | omega
    rintro e V ⟨rfl, rfl⟩
    go_simp
    refine hK.out _ _ ?_ (fun hHeld => ?_)
    · exact hHeld
    clear hK K
    refine skO 0 (by simp only [gT, gZ]; rfl) (fun K hK => ?_)
    rw [if_pos (by rfl)]
    (with_reducible refine w_ld_s (w.heap.size + 3) h.c hc2 ?_ ?_)
    · exact rfl
    simp only [Act.put, pA, pZ, pS]
    refine hK.out _ _ ?_ (fun hHeld => ?_)
    · exact hHeld
    clear hK K
    refine skO 8 (by simp only [gT, gZ, gS]; rfl) (fun K hK => ?_)
    go_simp
    refine (HW.out _).mono ?_
    rintro e V ⟨rfl, hbc⟩
    replace hr := hHeld.1.bl hbc
    replace hi := hHeld.2.1.bl hbc
    replace hb := below_bl rfl hHeld.2.2.2 hbc
    replace hq := hq.bl hbc
    replace hc2 := hc2.bl hbc
    clear hHeld
    go_simp
    refine hK.out _ _ ?_ (fun hHeld => ?_)
    · exact ⟨hr, hi, Or.inl hc2, hb⟩
    clear hK K
    refine tkO 9 (.tuple #[.agg c.cells, (.iface 89 (.int .i64 ((k : Int) + 1)))]) (by simp only [gT, gZ, gS]; rfl) (puO (by (intro w hSw; (try dsimp only at hSw); go_simp))) ?_
    simp only [Act.put, pA, pZ, pS]
    refine tkO 10 (.agg c.cells) (by simp only [gT, gZ, gS]; rfl) (puO (by (intro w hSw; (try dsimp only at hSw); go_simp))) ?_
    simp only [Act.put, pA, pZ, pS]
    refine tkO 11 ((.iface 89 (.int .i64 ((k : Int) + 1)))) (by simp only [gT, gZ, gS]; rfl) (puO (by (intro w hSw; (try dsimp only at hSw); go_simp))) ?_
    simp only [Act.put, pA, pZ, pS]
    refine skO 12 (by simp only [gT, gZ, gS]; rfl) (fun K hK => ?_)
    rw [if_pos (by rfl)]
    (with_reducible refine s_s (w.heap.size + 3) _ c hc2 ?_ ?_ ?_)
    · exact rfl
    · exact rfl
    intro W hnew ho
    replace hr := hr.only ho (by omega)
    replace hi := hi.only ho (by omega)
    replace hq := hq.only ho (by omega)
    replace hb := ho.bel _ _ (by omega) hb
    replace hc2 := hnew
    clear hHeld
    refine hK.out _ _ ?_ (fun hHeld => ?_)
    · exact ⟨hr, hi, Or.inr hc2, hb⟩
    clear hK K
    refine tkO 13 ((.iface 89 (.int .i64 ((k : Int) + 1)))) (by simp only [gT, gZ, gS]; rfl) (puO (by (intro w hSw; (try dsimp only at hSw); go_simp))) ?_
    simp only [Act.put, pA, pZ, pS]
    refine wpAnyH_done (by kernel_rfl) ?_ _
    have qa : W.cell? ⟨w.heap.size + 1, 0, none⟩ = some (.int .i64 51) := hi.cell 0
    have qb : W.cell? ⟨w.heap.size + 1, 1, none⟩ = some (.int .i64 (rd : Nat)) := hi.cell 1
    have qc : W.cell? ⟨w.heap.size + 1, 2, none⟩ = some (.int .i64 (s1 : Nat)) := hi.cell 2
    go_wp2_with (first | ((with_reducible refine ld_h w.heap.size _ hr ?_ ?_); exact rfl) | ((with_reducible refine ld_c w.heap.size _ hr ?_ ?_); exact rfl) | ((with_reducible refine ld_s (w.heap.size + 3) _ hc2 ?_ ?_); exact rfl) | ((with_reducible refine ld_op (w.heap.size + 1) _ hi ?_ ?_); exact rfl) | ((with_reducible refine ld_rd (w.heap.size + 1) _ hi ?_ ?_); exact rfl) | ((with_reducible refine ld_rs1 (w.heap.size + 1) _ hi ?_ ?_); exact rfl) | ((with_reducible refine ld_csr (w.heap.size + 1) _ hi ?_ ?_); exact rfl) | ((with_reducible refine ld_x w.heap.size s1 _ h1 hr ?_ ?_); exact rfl) | (go_at_call 22; refine (HT.out _).mono ?_; rintro e W ⟨rfl, hbc⟩; obtain ⟨hr, hi, hq, hc2, hb⟩ := bl4 hbc hr hi hq hc2 hb) | ((with_reducible refine st_h (w.heap.size + 2) _ (trapH h 2 v) hq ?_ ?_ ?_); exact rfl; exact rfl; intro W hnew ho; obtain ⟨hr, hi, hc2, hb⟩ := on3 ho hr hi hc2 hb; replace hq := hnew))
    refine bodyPost_ret (results_cell_row Tryd.results26 _ _ (w.heap.size + 2) _ _ _ _ rfl hq Tryd.underlying31 rfl size_hart) rfl ?_
    exact ⟨rfl, hb⟩

set_option maxHeartbeats 2000000 in
theorem control_51rC (h : H) (ok : h.Ok) (rd s1 s2 : Nat) (im cs : Int) (hrd : rd < 32) (h1 : s1 < 32) (v l : Nat) (hl : l < 4294967296) (h0 : rd ≠ 0) (old : Nat) (hold : old < 4294967296) (hR : readN h.c cs l = some old) (c : S8) (hc : c.Ok) (hW : writeN h.c cs (mixN 51 old (h.x s1)) = (c, 0)) (w : World) :
    Calls Tryd.prog 26 #[.agg h.cells, .agg (I6.cells ⟨51, (rd : Nat), (s1 : Nat), (s2 : Nat), im, cs⟩), .int .u32 v, .int .u32 l] w fun e w' => e = .returned (.agg (nextH (writeH (withC h c) rd old)).cells) ∧ Below w.heap.size w w' := by
  have b1 : (0 : Int) ≤ s1 := by omega
  have b2 : (s1 : Int) < 32 := by omega
  have t1 : ((rd : Int) != 0) = true := by simp; omega
  clear h0
  have HR := hide (fun w => cs_read_bl h.c ok.c cs l hl w)
  rw [hR] at HR
  simp only [readV] at HR
  clear hR
  have HM : Hid (∀ z : Int, z = (((h.x s1) : Nat) : Int) → ∀ w, Calls Tryd.prog 54 #[.int .i64 51, .int .u32 old, .int .u32 z] w fun e w' => e = .returned (.int .u32 ((mixN 51 old (h.x s1)) : Nat)) ∧ w' = w) := hide (fun z hz w => by rw [hz]; exact mixed_51 old (h.x s1) hold (ok.x s1) w)
  have HW := hide (fun w => cs_write_bl h.c ok.c cs (mixN 51 old (h.x s1)) (mixN_lt 51 hold (ok.x s1)) w)
  rw [hW] at HW
  simp only [errW] at HW
  clear hW
  generalize (mixN 51 old (h.x s1)) = M at HM HW
  have ok' : H.Ok (withC h c) := ⟨ok.pc, ok.x, hc⟩
  have HWr := hide (fun w => write_any (withC h c) rd hrd old w)
  have HN := hide (fun w => next_any _ (writeH_ok ok' rd hold) w)
  go_enter Tryd.func26, Tryd.ntmps26
  go_wp2_with (first | ((with_reducible refine bx_h w.heap.size h ?_ ?_ ?_); exact rfl; exact rfl; intro W hr hb hz) | ((with_reducible refine bx_i (w.heap.size + 1) ⟨51, (rd : Nat), (s1 : Nat), (s2 : Nat), im, cs⟩ ?_ ?_ ?_); exact hz.out; exact rfl; intro W hi hb' hz'; obtain ⟨hr, hb⟩ := an1 hz hb' hr hb; replace hz := hz') | ((with_reducible refine al_h (w.heap.size + 2) ?_ ?_); exact hz.out; intro W hq hb' hz'; obtain ⟨hr, hi, hb⟩ := an2 hz hb' hr hi hb; replace hz := hz'; obtain ⟨qa, qb, qc⟩ := q3 hi) | ((with_reducible refine al_c (w.heap.size + 3) ?_ ?_); exact hz.out; intro W hc2 hb' hz'; obtain ⟨hr, hi, hq, hb⟩ := an3 hz hb' hr hi hq hb; replace hz := hz'; obtain ⟨qa, qb, qc⟩ := q3 hi) | ((with_reducible refine st_s (w.heap.size + 3) _ h.c hc2 ?_ ?_ ?_); exact rfl; exact rfl; intro W hnew ho; obtain ⟨hr, hi, hq, hb⟩ := on3 ho hr hi hq hb; replace hc2 := hnew; obtain ⟨qa, qb, qc⟩ := q3 hi) | (go_at_call 52; refine (HR.out _).mono ?_; rintro e W ⟨rfl, hbc⟩; obtain ⟨hr, hi, hq, hc2, hb⟩ := bl4 hbc hr hi hq hc2 hb; obtain ⟨qa, qb, qc⟩ := q3 hi) | ((with_reducible refine ld_h w.heap.size _ hr ?_ ?_); exact rfl) | ((with_reducible refine ld_c w.heap.size _ hr ?_ ?_); exact rfl) | ((with_reducible refine ld_s (w.heap.size + 3) _ hc2 ?_ ?_); exact rfl) | ((with_reducible refine ld_op (w.heap.size + 1) _ hi ?_ ?_); exact rfl) | ((with_reducible refine ld_rd (w.heap.size + 1) _ hi ?_ ?_); exact rfl) | ((with_reducible refine ld_rs1 (w.heap.size + 1) _ hi ?_ ?_); exact rfl) | ((with_reducible refine ld_csr (w.heap.size + 1) _ hi ?_ ?_); exact rfl) | ((with_reducible refine ld_x w.heap.size s1 _ h1 hr ?_ ?_); exact rfl))
  refine wp_region_held_drew (S := (fun V => RowAt V w.heap.size h.cells 31 ∧ RowAt V (w.heap.size + 1) (I6.cells ⟨51, (rd : Nat), (s1 : Nat), (s2 : Nat), im, cs⟩) 61 ∧ (RowAt V (w.heap.size + 3) h.c.cells 29 ∨ RowAt V (w.heap.size + 3) c.cells 29) ∧ Below w.heap.size w V)) (by kernel_rfl) ?_ (fun hHeld => ?_)
  · exact ⟨hr.dr, hi.dr, Or.inl hc2.dr, hb.drew⟩
  replace hq := hq.dr
  replace hc2 := hc2.dr
  refine tkO 1 (.pointer (some ⟨w.heap.size + 1, 5, none⟩)) (by simp only [gT, gZ, gS]; rfl) (puO (by (intro w hSw; (try dsimp only at hSw); go_simp))) ?_
  simp only [Act.put, pA, pZ, pS]
  refine tkO 2 (.int .i64 cs) (by simp only [gT, gZ, gS]; rfl) (y_int (w.heap.size + 1) 5 _ (fun V hV => (hV.2.1.cell 5).trans rfl) rfl) ?_
  simp only [Act.put, pA, pZ, pS]
  refine tkO 3 (.pointer (some ⟨w.heap.size + 1, 0, none⟩)) (by simp only [gT, gZ, gS]; rfl) (puO (by (intro w hSw; (try dsimp only at hSw); go_simp))) ?_
  simp only [Act.put, pA, pZ, pS]
  refine tkO 4 (.int .i64 51) (by simp only [gT, gZ, gS]; rfl) (y_int (w.heap.size + 1) 0 _ (fun V hV => (hV.2.1.cell 0).trans rfl) rfl) ?_
  simp only [Act.put, pA, pZ, pS]
  refine tkO 5 (.int .u32 (old : Nat)) (by simp only [gT, gZ, gS]; rfl) (puO (by (intro w hSw; (try dsimp only at hSw); go_simp))) ?_
  simp only [Act.put, pA, pZ, pS]
  refine tkO 6 (.int .u32 ((h.x s1) : Nat)) (by simp only [gT, gZ, gS]; rfl) (puO (by (intro w hSw; (try dsimp only at hSw); go_simp <;> omega))) ?_
  simp only [Act.put, pA, pZ, pS]
  refine wpAnyH_ready (rs := [0, 7]) (by kernel_rfl) (by simp) ?_
  refine AllReadyH.cons (o := ?oi73) ?hi73 (fun K hK => ?b73) (AllReadyH.cons (o := ?oi74) ?hi74 (fun K hK => ?b74) AllReadyH.nil)
  case hi73 => (simp only [List.getElem?_toArray, List.getElem?_cons_zero]; rfl)
  case hi74 => (simp only [List.getElem?_toArray, List.getElem?_cons_zero, List.getElem?_cons_succ]; rfl)
  case b73 =>
    rw [if_pos (by rfl)]
    (with_reducible refine w_ld_s (w.heap.size + 3) h.c hc2 ?_ ?_)
    · exact rfl
    simp only [Act.put, pA, pZ, pS]
    refine hK.out _ _ ?_ (fun hHeld => ?_)
    · exact hHeld
    clear hK K
    refine skO 7 (by simp only [gT, gZ, gS]; rfl) (fun K hK => ?_)
    go_simp
    refine (HM.out _ ?_ _).mono ?_
    · first | rfl | omega
    rintro e V ⟨rfl, rfl⟩
    go_simp
    refine hK.out _ _ ?_ (fun hHeld => ?_)
    · exact hHeld
    clear hK K
    refine skO 8 (by simp only [gT, gZ, gS]; rfl) (fun K hK => ?_)
    go_simp
    refine (HW.out _).mono ?_
    rintro e V ⟨rfl, hbc⟩
    replace hr := hHeld.1.bl hbc
    replace hi := hHeld.2.1.bl hbc
    replace hb := below_bl rfl hHeld.2.2.2 hbc
    replace hq := hq.bl hbc
    replace hc2 := hc2.bl hbc
    clear hHeld
    go_simp
    refine hK.out _ _ ?_ (fun hHeld => ?_)
    · exact ⟨hr, hi, Or.inl hc2, hb⟩
    clear hK K
    refine tkO 9 (.tuple #[.agg c.cells, .nilIface]) (by simp only [gT, gZ, gS]; rfl) (puO (by (intro w hSw; (try dsimp only at hSw); go_simp))) ?_
    simp only [Act.put, pA, pZ, pS]
    refine tkO 10 (.agg c.cells) (by simp only [gT, gZ, gS]; rfl) (puO (by (intro w hSw; (try dsimp only at hSw); go_simp))) ?_
    simp only [Act.put, pA, pZ, pS]
    refine tkO 11 (.nilIface) (by simp only [gT, gZ, gS]; rfl) (puO (by (intro w hSw; (try dsimp only at hSw); go_simp))) ?_
    simp only [Act.put, pA, pZ, pS]
    refine skO 12 (by simp only [gT, gZ, gS]; rfl) (fun K hK => ?_)
    rw [if_pos (by rfl)]
    (with_reducible refine s_s (w.heap.size + 3) _ c hc2 ?_ ?_ ?_)
    · exact rfl
    · exact rfl
    intro W hnew ho
    replace hr := hr.only ho (by omega)
    replace hi := hi.only ho (by omega)
    replace hq := hq.only ho (by omega)
    replace hb := ho.bel _ _ (by omega) hb
    replace hc2 := hnew
    clear hHeld
    refine hK.out _ _ ?_ (fun hHeld => ?_)
    · exact ⟨hr, hi, Or.inr hc2, hb⟩
    clear hK K
    refine tkO 13 (.nilIface) (by simp only [gT, gZ, gS]; rfl) (puO (by (intro w hSw; (try dsimp only at hSw); go_simp))) ?_
    simp only [Act.put, pA, pZ, pS]
    refine wpAnyH_done (by kernel_rfl) ?_ _
    have qa : W.cell? ⟨w.heap.size + 1, 0, none⟩ = some (.int .i64 51) := hi.cell 0
    have qb : W.cell? ⟨w.heap.size + 1, 1, none⟩ = some (.int .i64 (rd : Nat)) := hi.cell 1
    have qc : W.cell? ⟨w.heap.size + 1, 2, none⟩ = some (.int .i64 (s1 : Nat)) := hi.cell 2
    go_wp2_with (first | ((with_reducible refine ld_h w.heap.size _ hr ?_ ?_); exact rfl) | ((with_reducible refine ld_c w.heap.size _ hr ?_ ?_); exact rfl) | ((with_reducible refine ld_s (w.heap.size + 3) _ hc2 ?_ ?_); exact rfl) | ((with_reducible refine ld_op (w.heap.size + 1) _ hi ?_ ?_); exact rfl) | ((with_reducible refine ld_rd (w.heap.size + 1) _ hi ?_ ?_); exact rfl) | ((with_reducible refine ld_rs1 (w.heap.size + 1) _ hi ?_ ?_); exact rfl) | ((with_reducible refine ld_csr (w.heap.size + 1) _ hi ?_ ?_); exact rfl) | ((with_reducible refine ld_x w.heap.size s1 _ h1 hr ?_ ?_); exact rfl) | ((with_reducible refine st_c w.heap.size _ c hr ?_ ?_ ?_); exact rfl; exact rfl; intro W hnew ho; obtain ⟨hi, hq, hc2, hb⟩ := on3 ho hi hq hc2 hb; replace hr := hnew) | (go_at_call 46; refine (HWr.out _).mono ?_; rintro e W ⟨rfl, hbc⟩; obtain ⟨hr, hi, hq, hc2, hb⟩ := bl4 hbc hr hi hq hc2 hb) | (go_at_call 45; refine (HN.out _).mono ?_; rintro e W ⟨rfl, hbc⟩; obtain ⟨hr, hi, hq, hc2, hb⟩ := bl4 hbc hr hi hq hc2 hb) | ((with_reducible refine st_h (w.heap.size + 2) _ (nextH (writeH (withC h c) rd old)) hq ?_ ?_ ?_); exact rfl; exact rfl; intro W hnew ho; obtain ⟨hr, hi, hc2, hb⟩ := on3 ho hr hi hc2 hb; replace hq := hnew))
    refine bodyPost_ret (results_cell_row Tryd.results26 _ _ (w.heap.size + 2) _ _ _ _ rfl hq Tryd.underlying31 rfl size_hart) rfl ?_
    exact ⟨rfl, hb⟩
  case b74 =>
    go_simp
    refine (HM.out _ ?_ _).mono ?_
    · first | rfl | omega
    rintro e V ⟨rfl, rfl⟩
    go_simp
    refine hK.out _ _ ?_ (fun hHeld => ?_)
    · exact hHeld
    clear hK K
    refine skO 0 (by simp only [gT, gZ]; rfl) (fun K hK => ?_)
    rw [if_pos (by rfl)]
    (with_reducible refine w_ld_s (w.heap.size + 3) h.c hc2 ?_ ?_)
    · exact rfl
    simp only [Act.put, pA, pZ, pS]
    refine hK.out _ _ ?_ (fun hHeld => ?_)
    · exact hHeld
    clear hK K
    refine skO 8 (by simp only [gT, gZ, gS]; rfl) (fun K hK => ?_)
    go_simp
    refine (HW.out _).mono ?_
    rintro e V ⟨rfl, hbc⟩
    replace hr := hHeld.1.bl hbc
    replace hi := hHeld.2.1.bl hbc
    replace hb := below_bl rfl hHeld.2.2.2 hbc
    replace hq := hq.bl hbc
    replace hc2 := hc2.bl hbc
    clear hHeld
    go_simp
    refine hK.out _ _ ?_ (fun hHeld => ?_)
    · exact ⟨hr, hi, Or.inl hc2, hb⟩
    clear hK K
    refine tkO 9 (.tuple #[.agg c.cells, .nilIface]) (by simp only [gT, gZ, gS]; rfl) (puO (by (intro w hSw; (try dsimp only at hSw); go_simp))) ?_
    simp only [Act.put, pA, pZ, pS]
    refine tkO 10 (.agg c.cells) (by simp only [gT, gZ, gS]; rfl) (puO (by (intro w hSw; (try dsimp only at hSw); go_simp))) ?_
    simp only [Act.put, pA, pZ, pS]
    refine tkO 11 (.nilIface) (by simp only [gT, gZ, gS]; rfl) (puO (by (intro w hSw; (try dsimp only at hSw); go_simp))) ?_
    simp only [Act.put, pA, pZ, pS]
    refine skO 12 (by simp only [gT, gZ, gS]; rfl) (fun K hK => ?_)
    rw [if_pos (by rfl)]
    (with_reducible refine s_s (w.heap.size + 3) _ c hc2 ?_ ?_ ?_)
    · exact rfl
    · exact rfl
    intro W hnew ho
    replace hr := hr.only ho (by omega)
    replace hi := hi.only ho (by omega)
    replace hq := hq.only ho (by omega)
    replace hb := ho.bel _ _ (by omega) hb
    replace hc2 := hnew
    clear hHeld
    refine hK.out _ _ ?_ (fun hHeld => ?_)
    · exact ⟨hr, hi, Or.inr hc2, hb⟩
    clear hK K
    refine tkO 13 (.nilIface) (by simp only [gT, gZ, gS]; rfl) (puO (by (intro w hSw; (try dsimp only at hSw); go_simp))) ?_
    simp only [Act.put, pA, pZ, pS]
    refine wpAnyH_done (by kernel_rfl) ?_ _
    have qa : W.cell? ⟨w.heap.size + 1, 0, none⟩ = some (.int .i64 51) := hi.cell 0
    have qb : W.cell? ⟨w.heap.size + 1, 1, none⟩ = some (.int .i64 (rd : Nat)) := hi.cell 1
    have qc : W.cell? ⟨w.heap.size + 1, 2, none⟩ = some (.int .i64 (s1 : Nat)) := hi.cell 2
    go_wp2_with (first | ((with_reducible refine ld_h w.heap.size _ hr ?_ ?_); exact rfl) | ((with_reducible refine ld_c w.heap.size _ hr ?_ ?_); exact rfl) | ((with_reducible refine ld_s (w.heap.size + 3) _ hc2 ?_ ?_); exact rfl) | ((with_reducible refine ld_op (w.heap.size + 1) _ hi ?_ ?_); exact rfl) | ((with_reducible refine ld_rd (w.heap.size + 1) _ hi ?_ ?_); exact rfl) | ((with_reducible refine ld_rs1 (w.heap.size + 1) _ hi ?_ ?_); exact rfl) | ((with_reducible refine ld_csr (w.heap.size + 1) _ hi ?_ ?_); exact rfl) | ((with_reducible refine ld_x w.heap.size s1 _ h1 hr ?_ ?_); exact rfl) | ((with_reducible refine st_c w.heap.size _ c hr ?_ ?_ ?_); exact rfl; exact rfl; intro W hnew ho; obtain ⟨hi, hq, hc2, hb⟩ := on3 ho hi hq hc2 hb; replace hr := hnew) | (go_at_call 46; refine (HWr.out _).mono ?_; rintro e W ⟨rfl, hbc⟩; obtain ⟨hr, hi, hq, hc2, hb⟩ := bl4 hbc hr hi hq hc2 hb) | (go_at_call 45; refine (HN.out _).mono ?_; rintro e W ⟨rfl, hbc⟩; obtain ⟨hr, hi, hq, hc2, hb⟩ := bl4 hbc hr hi hq hc2 hb) | ((with_reducible refine st_h (w.heap.size + 2) _ (nextH (writeH (withC h c) rd old)) hq ?_ ?_ ?_); exact rfl; exact rfl; intro W hnew ho; obtain ⟨hr, hi, hc2, hb⟩ := on3 ho hr hi hc2 hb; replace hq := hnew))
    refine bodyPost_ret (results_cell_row Tryd.results26 _ _ (w.heap.size + 2) _ _ _ _ rfl hq Tryd.underlying31 rfl size_hart) rfl ?_
    exact ⟨rfl, hb⟩

end Go.Proofs.YtchjhpeogdkbmaaDoor
