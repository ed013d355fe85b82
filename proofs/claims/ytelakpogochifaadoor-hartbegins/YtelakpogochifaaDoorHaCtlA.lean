/-
  What hart.control answers.
-/
import Derived.Test.YtelakpogochifaaDoorHaSys
import Derived.Test.YtelakpogochifaaDoorHaRowC
import Derived.Test.YtelakpogochifaaDoorHCsRead
import Derived.Test.YtelakpogochifaaDoorHCsWrite
import Derived.Deep.RegionHeld3
namespace Go.Proofs.YtelakpogochifaaDoor
open Go.RowKit
set_option linter.unusedVariables false

theorem w_ld_s {dst : Option Tmp} {ty : TypeId} {pos : String} {after : Array Edge} {a : Act} {w : World} {Q : Exit → Act → World → Prop} {x : Operand} {K : Act → World → Prop} (b : Nat) (c : S8) (hr : RowAt w b c.cells 29) (hx : a.eval x = .pointer (some ⟨b, 0, none⟩))
    (k : K (a.put dst (.agg c.cells)) w) : Oper.wp Tryd.prog ⟨dst, .load 29 x, ty, pos, after, none⟩ a w K Q :=
  wp_load_row 29 x rfl b hx _ c.cells (0, 0) _ hr Tryd.underlying29 rfl size_state k
theorem cs_read_bl (s : S8) (hs : s.Ok) (a : Int) (l : Nat) (hl : l < 4294967296) (w : World) :
    Calls Tryd.prog 52 #[.agg s.cells, .int .i64 a, .int .u32 l] w fun e w' => e = .returned (readV (readN s a l)) ∧ Below w.heap.size w w' :=
  (cs_read_any s hs a l hl w).mono fun e w' ⟨he, o, hw⟩ => ⟨he, hw ▸ below_one w o⟩
theorem cs_write_bl (s : S8) (hs : s.Ok) (a : Int) (v : Nat) (hv : v < 4294967296) (w : World) :
    Calls Tryd.prog 53 #[.agg s.cells, .int .i64 a, .int .u32 v] w fun e w' => e = .returned (.tuple #[.agg (writeN s a v).1.cells, errW (writeN s a v).2]) ∧ Below w.heap.size w w' :=
  (cs_write_any s hs a v hv w).mono fun e w' ⟨he, o, o', hw⟩ => ⟨he, hw ▸ below_two w o o'⟩
theorem mixN_lt (op : Nat) {old v : Nat} (h : old < 4294967296) (h' : v < 4294967296) : mixN op old v < 4294967296 := by
  unfold mixN
  split
  · exact or_lt32 h h'
  · split
    · exact and_lt h
    · exact h'

set_option maxHeartbeats 2000000 in
theorem control_51nB (h : H) (ok : h.Ok) (rd s1 s2 : Nat) (im cs : Int) (hrd : rd < 32) (h1 : s1 < 32) (v l : Nat) (hl : l < 4294967296) (h0 : rd = 0) (c : S8) (k : Nat) (hW : writeN h.c cs (mixN 51 0 (h.x s1)) = (c, k + 1)) (w : World) :
    Calls Tryd.prog 26 #[.agg h.cells, .agg (I6.cells ⟨51, (rd : Nat), (s1 : Nat), (s2 : Nat), im, cs⟩), .int .u32 v, .int .u32 l] w fun e w' => e = .returned (.agg (trapH h 2 v).cells) ∧ Below w.heap.size w w' := by
  have b1 : (0 : Int) ≤ s1 := by omega
  have b2 : (s1 : Int) < 32 := by omega
  subst h0
  have HM : Hid (∀ z : Int, z = (((h.x s1) : Nat) : Int) → ∀ w, Calls Tryd.prog 54 #[.int .i64 51, .int .u32 0, .int .u32 z] w fun e w' => e = .returned (.int .u32 ((mixN 51 0 (h.x s1)) : Nat)) ∧ w' = w) := hide (fun z hz w => by rw [hz]; exact mixed_51 0 (h.x s1) (by decide : 0 < 4294967296) (ok.x s1) w)
  have HW := hide (fun w => cs_write_bl h.c ok.c cs (mixN 51 0 (h.x s1)) (mixN_lt 51 (by decide : 0 < 4294967296) (ok.x s1)) w)
  rw [hW] at HW
  simp only [errW] at HW
  clear hW
  generalize (mixN 51 0 (h.x s1)) = M at HM HW
  have HT := hide (fun w => trap_any h ok 2 v (by decide) w)
  rw [show (((2 : Nat) : Int)) = 2 from rfl] at HT
  go_enter Tryd.func26, Tryd.ntmps26
  go_wp2_with (first | ((with_reducible refine bx_h w.heap.size h ?_ ?_ ?_); exact rfl; exact rfl; intro W hr hb hz) | ((with_reducible refine bx_i (w.heap.size + 1) ⟨51, ((0 : Nat) : Int), (s1 : Nat), (s2 : Nat), im, cs⟩ ?_ ?_ ?_); exact hz.out; exact rfl; intro W hi hb' hz'; replace hr := hr.bl (hz.out ▸ hb'); replace hb := hb.trans (hb'.mono (by omega)); replace hz := hz') | ((with_reducible refine al_h (w.heap.size + 2) ?_ ?_); exact hz.out; intro W hq hb' hz'; replace hr := hr.bl (hz.out ▸ hb'); replace hi := hi.bl (hz.out ▸ hb'); replace hb := hb.trans (hb'.mono (by omega)); replace hz := hz'; have qa : W.cell? ⟨w.heap.size + 1, 0, none⟩ = some (.int .i64 51) := hi.cell 0; have qb : W.cell? ⟨w.heap.size + 1, 1, none⟩ = some (.int .i64 0) := hi.cell 1; have qc : W.cell? ⟨w.heap.size + 1, 2, none⟩ = some (.int .i64 (s1 : Nat)) := hi.cell 2) | ((with_reducible refine al_c (w.heap.size + 3) ?_ ?_); exact hz.out; intro W hc2 hb' hz'; replace hr := hr.bl (hz.out ▸ hb'); replace hi := hi.bl (hz.out ▸ hb'); replace hq := hq.bl (hz.out ▸ hb'); replace hb := hb.trans (hb'.mono (by omega)); replace hz := hz'; have qa : W.cell? ⟨w.heap.size + 1, 0, none⟩ = some (.int .i64 51) := hi.cell 0; have qb : W.cell? ⟨w.heap.size + 1, 1, none⟩ = some (.int .i64 0) := hi.cell 1; have qc : W.cell? ⟨w.heap.size + 1, 2, none⟩ = some (.int .i64 (s1 : Nat)) := hi.cell 2) | ((with_reducible refine st_s (w.heap.size + 3) _ h.c hc2 ?_ ?_ ?_); exact rfl; exact rfl; intro W hnew ho; replace hr := hr.only ho (by omega); replace hi := hi.only ho (by omega); replace hq := hq.only ho (by omega); replace hc2 := hnew; replace hb := ho.bel _ _ (by omega) hb; have qa : W.cell? ⟨w.heap.size + 1, 0, none⟩ = some (.int .i64 51) := hi.cell 0; have qb : W.cell? ⟨w.heap.size + 1, 1, none⟩ = some (.int .i64 0) := hi.cell 1; have qc : W.cell? ⟨w.heap.size + 1, 2, none⟩ = some (.int .i64 (s1 : Nat)) := hi.cell 2) | ((with_reducible refine ld_h w.heap.size _ hr ?_ ?_); exact rfl) | ((with_reducible refine ld_c w.heap.size _ hr ?_ ?_); exact rfl) | ((with_reducible refine ld_s (w.heap.size + 3) _ hc2 ?_ ?_); exact rfl) | ((with_reducible refine ld_op (w.heap.size + 1) _ hi ?_ ?_); exact rfl) | ((with_reducible refine ld_rd (w.heap.size + 1) _ hi ?_ ?_); exact rfl) | ((with_reducible refine ld_rs1 (w.heap.size + 1) _ hi ?_ ?_); exact rfl) | ((with_reducible refine ld_csr (w.heap.size + 1) _ hi ?_ ?_); exact rfl) | ((with_reducible refine ld_x w.heap.size s1 _ h1 hr ?_ ?_); exact rfl))
  refine wp_region_held_drew (S := (fun V => RowAt V w.heap.size h.cells 31 ∧ RowAt V (w.heap.size + 1) (I6.cells ⟨51, ((0 : Nat) : Int), (s1 : Nat), (s2 : Nat), im, cs⟩) 61 ∧ (RowAt V (w.heap.size + 3) h.c.cells 29 ∨ RowAt V (w.heap.size + 3) c.cells 29) ∧ Below w.heap.size w V)) (by kernel_rfl) ?_ (fun hHeld => ?_)
  · exact ⟨hr.dr, hi.dr, Or.inl hc2.dr, hb.drew⟩
  replace hq := hq.dr
  replace hc2 := hc2.dr
  refine wpAnyH_take (i := 1) (oi := ?oi1) (v := .pointer (some ⟨w.heap.size + 1, 5, none⟩)) ?hi1 (by kernel_rfl) (by kernel_rfl) (by kernel_rfl) ?hQ1 ?hy1 (by assumption) ?rest1
  case hi1 => (simp only [List.getElem?_toArray, List.getElem?_cons_zero, List.getElem?_cons_succ]; rfl)
  case hQ1 => exact fun _ _ _ h => h
  case hy1 => exact Or.inl ⟨by rfl, by (intro w hSw; (try dsimp only at hSw); go_simp )⟩
  simp only [Act.put, List.setIfInBounds_toArray, List.set_cons_zero, List.set_cons_succ]
  refine wpAnyH_take (i := 2) (oi := ?oi2) (v := .int .i64 cs) ?hi2 (by kernel_rfl) (by kernel_rfl) (by kernel_rfl) ?hQ2 ?hy2 (by assumption) ?rest2
  case hi2 => (simp only [List.getElem?_toArray, List.getElem?_cons_zero, List.getElem?_cons_succ]; rfl)
  case hQ2 => exact fun _ _ _ h => h
  case hy2 => exact y_int (w.heap.size + 1) 5 _ (fun V hV => (hV.2.1.cell 5).trans rfl) rfl
  simp only [Act.put, List.setIfInBounds_toArray, List.set_cons_zero, List.set_cons_succ]
  refine wpAnyH_take (i := 3) (oi := ?oi3) (v := .pointer (some ⟨w.heap.size + 1, 0, none⟩)) ?hi3 (by kernel_rfl) (by kernel_rfl) (by kernel_rfl) ?hQ3 ?hy3 (by assumption) ?rest3
  case hi3 => (simp only [List.getElem?_toArray, List.getElem?_cons_zero, List.getElem?_cons_succ]; rfl)
  case hQ3 => exact fun _ _ _ h => h
  case hy3 => exact Or.inl ⟨by rfl, by (intro w hSw; (try dsimp only at hSw); go_simp )⟩
  simp only [Act.put, List.setIfInBounds_toArray, List.set_cons_zero, List.set_cons_succ]
  refine wpAnyH_take (i := 4) (oi := ?oi4) (v := .int .i64 51) ?hi4 (by kernel_rfl) (by kernel_rfl) (by kernel_rfl) ?hQ4 ?hy4 (by assumption) ?rest4
  case hi4 => (simp only [List.getElem?_toArray, List.getElem?_cons_zero, List.getElem?_cons_succ]; rfl)
  case hQ4 => exact fun _ _ _ h => h
  case hy4 => exact y_int (w.heap.size + 1) 0 _ (fun V hV => (hV.2.1.cell 0).trans rfl) rfl
  simp only [Act.put, List.setIfInBounds_toArray, List.set_cons_zero, List.set_cons_succ]
  refine wpAnyH_take (i := 5) (oi := ?oi5) (v := .int .u32 0) ?hi5 (by kernel_rfl) (by kernel_rfl) (by kernel_rfl) ?hQ5 ?hy5 (by assumption) ?rest5
  case hi5 => (simp only [List.getElem?_toArray, List.getElem?_cons_zero, List.getElem?_cons_succ]; rfl)
  case hQ5 => exact fun _ _ _ h => h
  case hy5 => exact Or.inl ⟨by rfl, by (intro w hSw; (try dsimp only at hSw); go_simp )⟩
  simp only [Act.put, List.setIfInBounds_toArray, List.set_cons_zero, List.set_cons_succ]
  refine wpAnyH_take (i := 6) (oi := ?oi6) (v := .int .u32 ((h.x s1) : Nat)) ?hi6 (by kernel_rfl) (by kernel_rfl) (by kernel_rfl) ?hQ6 ?hy6 (by assumption) ?rest6
  case hi6 => (simp only [List.getElem?_toArray, List.getElem?_cons_zero, List.getElem?_cons_succ]; rfl)
  case hQ6 => exact fun _ _ _ h => h
  case hy6 => exact Or.inl ⟨by rfl, by (intro w hSw; (try dsimp only at hSw); go_simp <;> omega)⟩
  simp only [Act.put, List.setIfInBounds_toArray, List.set_cons_zero, List.set_cons_succ]
  refine wpAnyH_ready (rs := [0, 7]) (by kernel_rfl) (by simp) ?_
  refine AllReadyH.cons (o := ?oi7) ?hi7 (fun K hK => ?b7) (AllReadyH.cons (o := ?oi8) ?hi8 (fun K hK => ?b8) AllReadyH.nil)
  case hi7 => (simp only [List.getElem?_toArray, List.getElem?_cons_zero]; rfl)
  case hi8 => (simp only [List.getElem?_toArray, List.getElem?_cons_zero, List.getElem?_cons_succ]; rfl)
  case b7 =>
    rw [if_pos (by rfl)]
    (with_reducible refine w_ld_s (w.heap.size + 3) h.c hc2 ?_ ?_)
    · exact rfl
    simp only [Act.put, List.setIfInBounds_toArray, List.set_cons_zero, List.set_cons_succ]
    refine hK.out _ _ ?_ (fun hHeld => ?_)
    · exact hHeld
    clear hK K
    refine wpAnyH_ready (rs := [7]) (by kernel_rfl) (by simp) ?_
    refine AllReadyH.cons (o := ?oi9) ?hi9 (fun K hK => ?_) AllReadyH.nil
    case hi9 => (simp only [List.getElem?_toArray, List.getElem?_cons_zero, List.getElem?_cons_succ]; rfl)
    go_simp
    refine (HM.out _ ?_ _).mono ?_
    · first | rfl | omega
    rintro e V ⟨rfl, rfl⟩
    go_simp
    refine hK.out _ _ ?_ (fun hHeld => ?_)
    · exact hHeld
    clear hK K
    refine wpAnyH_ready (rs := [8]) (by kernel_rfl) (by simp) ?_
    refine AllReadyH.cons (o := ?oi10) ?hi10 (fun K hK => ?_) AllReadyH.nil
    case hi10 => (simp only [List.getElem?_toArray, List.getElem?_cons_zero, List.getElem?_cons_succ]; rfl)
    go_simp
    refine (HW.out _).mono ?_
    rintro e V ⟨rfl, hbc⟩
    replace hr := hHeld.1.bl hbc
    replace hi := hHeld.2.1.bl hbc
    replace hb := below_bl rfl hHeld.2.2.2 hbc
    replace hq := hq.bl hbc
    replace hc2 := hc2.bl hbc
    clear hHeld
    go_simp
    refine hK.out _ _ ?_ (fun hHeld => ?_)
    · exact ⟨hr, hi, Or.inl hc2, hb⟩
    clear hK K
    refine wpAnyH_take (i := 9) (oi := ?oi11) (v := .tuple #[.agg c.cells, (.iface 89 (.int .i64 ((k : Int) + 1)))]) ?hi11 (by kernel_rfl) (by kernel_rfl) (by kernel_rfl) ?hQ11 ?hy11 (by assumption) ?rest11
    case hi11 => (simp only [List.getElem?_toArray, List.getElem?_cons_zero, List.getElem?_cons_succ]; rfl)
    case hQ11 => exact fun _ _ _ h => h
    case hy11 => exact Or.inl ⟨by rfl, by (intro w hSw; (try dsimp only at hSw); go_simp )⟩
    simp only [Act.put, List.setIfInBounds_toArray, List.set_cons_zero, List.set_cons_succ]
    refine wpAnyH_take (i := 10) (oi := ?oi12) (v := .agg c.cells) ?hi12 (by kernel_rfl) (by kernel_rfl) (by kernel_rfl) ?hQ12 ?hy12 (by assumption) ?rest12
    case hi12 => (simp only [List.getElem?_toArray, List.getElem?_cons_zero, List.getElem?_cons_succ]; rfl)
    case hQ12 => exact fun _ _ _ h => h
    case hy12 => exact Or.inl ⟨by rfl, by (intro w hSw; (try dsimp only at hSw); go_simp )⟩
    simp only [Act.put, List.setIfInBounds_toArray, List.set_cons_zero, List.set_cons_succ]
    refine wpAnyH_take (i := 11) (oi := ?oi13) (v := (.iface 89 (.int .i64 ((k : Int) + 1)))) ?hi13 (by kernel_rfl) (by kernel_rfl) (by kernel_rfl) ?hQ13 ?hy13 (by assumption) ?rest13
    case hi13 => (simp only [List.getElem?_toArray, List.getElem?_cons_zero, List.getElem?_cons_succ]; rfl)
    case hQ13 => exact fun _ _ _ h => h
    case hy13 => exact Or.inl ⟨by rfl, by (intro w hSw; (try dsimp only at hSw); go_simp )⟩
    simp only [Act.put, List.setIfInBounds_toArray, List.set_cons_zero, List.set_cons_succ]
    refine wpAnyH_ready (rs := [12]) (by kernel_rfl) (by simp) ?_
    refine AllReadyH.cons (o := ?oi14) ?hi14 (fun K hK => ?_) AllReadyH.nil
    case hi14 => (simp only [List.getElem?_toArray, List.getElem?_cons_zero, List.getElem?_cons_succ]; rfl)
    rw [if_pos (by rfl)]
    (with_reducible refine s_s (w.heap.size + 3) _ c hc2 ?_ ?_ ?_)
    · exact rfl
    · exact rfl
    intro W hnew ho
    replace hr := hr.only ho (by omega)
    replace hi := hi.only ho (by omega)
    replace hq := hq.only ho (by omega)
    replace hb := ho.bel _ _ (by omega) hb
    replace hc2 := hnew
    clear hHeld
    refine hK.out _ _ ?_ (fun hHeld => ?_)
    · exact ⟨hr, hi, Or.inr hc2, hb⟩
    clear hK K
    refine wpAnyH_take (i := 13) (oi := ?oi15) (v := (.iface 89 (.int .i64 ((k : Int) + 1)))) ?hi15 (by kernel_rfl) (by kernel_rfl) (by kernel_rfl) ?hQ15 ?hy15 (by assumption) ?rest15
    case hi15 => (simp only [List.getElem?_toArray, List.getElem?_cons_zero, List.getElem?_cons_succ]; rfl)
    case hQ15 => exact fun _ _ _ h => h
    case hy15 => exact Or.inl ⟨by rfl, by (intro w hSw; (try dsimp only at hSw); go_simp )⟩
    simp only [Act.put, List.setIfInBounds_toArray, List.set_cons_zero, List.set_cons_succ]
    refine wpAnyH_done (by kernel_rfl) ?_ _
    have qa : W.cell? ⟨w.heap.size + 1, 0, none⟩ = some (.int .i64 51) := hi.cell 0
    have qb : W.cell? ⟨w.heap.size + 1, 1, none⟩ = some (.int .i64 0) := hi.cell 1
    have qc : W.cell? ⟨w.heap.size + 1, 2, none⟩ = some (.int .i64 (s1 : Nat)) := hi.cell 2
    go_wp2_with (first | ((with_reducible refine ld_h w.heap.size _ hr ?_ ?_); exact rfl) | ((with_reducible refine ld_c w.heap.size _ hr ?_ ?_); exact rfl) | ((with_reducible refine ld_s (w.heap.size + 3) _ hc2 ?_ ?_); exact rfl) | ((with_reducible refine ld_op (w.heap.size + 1) _ hi ?_ ?_); exact rfl) | ((with_reducible refine ld_rd (w.heap.size + 1) _ hi ?_ ?_); exact rfl) | ((with_reducible refine ld_rs1 (w.heap.size + 1) _ hi ?_ ?_); exact rfl) | ((with_reducible refine ld_csr (w.heap.size + 1) _ hi ?_ ?_); exact rfl) | ((with_reducible refine ld_x w.heap.size s1 _ h1 hr ?_ ?_); exact rfl) | (go_at_call 22; refine (HT.out _).mono ?_; rintro e W ⟨rfl, hbc⟩; replace hr := hr.bl hbc; replace hi := hi.bl hbc; replace hq := hq.bl hbc; replace hc2 := hc2.bl hbc; replace hb := below_bl rfl hb hbc) | ((with_reducible refine st_h (w.heap.size + 2) _ (trapH h 2 v) hq ?_ ?_ ?_); exact rfl; exact rfl; intro W hnew ho; replace hr := hr.only ho (by omega); replace hi := hi.only ho (by omega); replace hc2 := hc2.only ho (by omega); replace hq := hnew; replace hb := ho.bel _ _ (by omega) hb))
    refine bodyPost_ret (results_cell_row Tryd.results26 _ _ (w.heap.size + 2) _ _ _ _ rfl hq Tryd.underlying31 rfl size_hart) rfl ?_
    exact ⟨rfl, hb⟩
  case b8 =>
    go_simp
    refine (HM.out _ ?_ _).mono ?_
    · first | rfl | omega
    rintro e V ⟨rfl, rfl⟩
    go_simp
    refine hK.out _ _ ?_ (fun hHeld => ?_)
    · exact hHeld
    clear hK K
    refine wpAnyH_ready (rs := [0]) (by kernel_rfl) (by simp) ?_
    refine AllReadyH.cons (o := ?oi16) ?hi16 (fun K hK => ?_) AllReadyH.nil
    case hi16 => (simp only [List.getElem?_toArray, List.getElem?_cons_zero]; rfl)
    rw [if_pos (by rfl)]
    (with_reducible refine w_ld_s (w.heap.size + 3) h.c hc2 ?_ ?_)
    · exact rfl
    simp only [Act.put, List.setIfInBounds_toArray, List.set_cons_zero, List.set_cons_succ]
    refine hK.out _ _ ?_ (fun hHeld => ?_)
    · exact hHeld
    clear hK K
    refine wpAnyH_ready (rs := [8]) (by kernel_rfl) (by simp) ?_
    refine AllReadyH.cons (o := ?oi17) ?hi17 (fun K hK => ?_) AllReadyH.nil
    case hi17 => (simp only [List.getElem?_toArray, List.getElem?_cons_zero, List.getElem?_cons_succ]; rfl)
    go_simp
    refine (HW.out _).mono ?_
    rintro e V ⟨rfl, hbc⟩
    replace hr := hHeld.1.bl hbc
    replace hi := hHeld.2.1.bl hbc
    replace hb := below_bl rfl hHeld.2.2.2 hbc
    replace hq := hq.bl hbc
    replace hc2 := hc2.bl hbc
    clear hHeld
    go_simp
    refine hK.out _ _ ?_ (fun hHeld => ?_)
    · exact ⟨hr, hi, Or.inl hc2, hb⟩
    clear hK K
    refine wpAnyH_take (i := 9) (oi := ?oi18) (v := .tuple #[.agg c.cells, (.iface 89 (.int .i64 ((k : Int) + 1)))]) ?hi18 (by kernel_rfl) (by kernel_rfl) (by kernel_rfl) ?hQ18 ?hy18 (by assumption) ?rest18
    case hi18 => (simp only [List.getElem?_toArray, List.getElem?_cons_zero, List.getElem?_cons_succ]; rfl)
    case hQ18 => exact fun _ _ _ h => h
    case hy18 => exact Or.inl ⟨by rfl, by (intro w hSw; (try dsimp only at hSw); go_simp )⟩
    simp only [Act.put, List.setIfInBounds_toArray, List.set_cons_zero, List.set_cons_succ]
    refine wpAnyH_take (i := 10) (oi := ?oi19) (v := .agg c.cells) ?hi19 (by kernel_rfl) (by kernel_rfl) (by kernel_rfl) ?hQ19 ?hy19 (by assumption) ?rest19
    case hi19 => (simp only [List.getElem?_toArray, List.getElem?_cons_zero, List.getElem?_cons_succ]; rfl)
    case hQ19 => exact fun _ _ _ h => h
    case hy19 => exact Or.inl ⟨by rfl, by (intro w hSw; (try dsimp only at hSw); go_simp )⟩
    simp only [Act.put, List.setIfInBounds_toArray, List.set_cons_zero, List.set_cons_succ]
    refine wpAnyH_take (i := 11) (oi := ?oi20) (v := (.iface 89 (.int .i64 ((k : Int) + 1)))) ?hi20 (by kernel_rfl) (by kernel_rfl) (by kernel_rfl) ?hQ20 ?hy20 (by assumption) ?rest20
    case hi20 => (simp only [List.getElem?_toArray, List.getElem?_cons_zero, List.getElem?_cons_succ]; rfl)
    case hQ20 => exact fun _ _ _ h => h
    case hy20 => exact Or.inl ⟨by rfl, by (intro w hSw; (try dsimp only at hSw); go_simp )⟩
    simp only [Act.put, List.setIfInBounds_toArray, List.set_cons_zero, List.set_cons_succ]
    refine wpAnyH_ready (rs := [12]) (by kernel_rfl) (by simp) ?_
    refine AllReadyH.cons (o := ?oi21) ?hi21 (fun K hK => ?_) AllReadyH.nil
    case hi21 => (simp only [List.getElem?_toArray, List.getElem?_cons_zero, List.getElem?_cons_succ]; rfl)
    rw [if_pos (by rfl)]
    (with_reducible refine s_s (w.heap.size + 3) _ c hc2 ?_ ?_ ?_)
    · exact rfl
    · exact rfl
    intro W hnew ho
    replace hr := hr.only ho (by omega)
    replace hi := hi.only ho (by omega)
    replace hq := hq.only ho (by omega)
    replace hb := ho.bel _ _ (by omega) hb
    replace hc2 := hnew
    clear hHeld
    refine hK.out _ _ ?_ (fun hHeld => ?_)
    · exact ⟨hr, hi, Or.inr hc2, hb⟩
    clear hK K
    refine wpAnyH_take (i := 13) (oi := ?oi22) (v := (.iface 89 (.int .i64 ((k : Int) + 1)))) ?hi22 (by kernel_rfl) (by kernel_rfl) (by kernel_rfl) ?hQ22 ?hy22 (by assumption) ?rest22
    case hi22 => (simp only [List.getElem?_toArray, List.getElem?_cons_zero, List.getElem?_cons_succ]; rfl)
    case hQ22 => exact fun _ _ _ h => h
    case hy22 => exact Or.inl ⟨by rfl, by (intro w hSw; (try dsimp only at hSw); go_simp )⟩
    simp only [Act.put, List.setIfInBounds_toArray, List.set_cons_zero, List.set_cons_succ]
    refine wpAnyH_done (by kernel_rfl) ?_ _
    have qa : W.cell? ⟨w.heap.size + 1, 0, none⟩ = some (.int .i64 51) := hi.cell 0
    have qb : W.cell? ⟨w.heap.size + 1, 1, none⟩ = some (.int .i64 0) := hi.cell 1
    have qc : W.cell? ⟨w.heap.size + 1, 2, none⟩ = some (.int .i64 (s1 : Nat)) := hi.cell 2
    go_wp2_with (first | ((with_reducible refine ld_h w.heap.size _ hr ?_ ?_); exact rfl) | ((with_reducible refine ld_c w.heap.size _ hr ?_ ?_); exact rfl) | ((with_reducible refine ld_s (w.heap.size + 3) _ hc2 ?_ ?_); exact rfl) | ((with_reducible refine ld_op (w.heap.size + 1) _ hi ?_ ?_); exact rfl) | ((with_reducible refine ld_rd (w.heap.size + 1) _ hi ?_ ?_); exact rfl) | ((with_reducible refine ld_rs1 (w.heap.size + 1) _ hi ?_ ?_); exact rfl) | ((with_reducible refine ld_csr (w.heap.size + 1) _ hi ?_ ?_); exact rfl) | ((with_reducible refine ld_x w.heap.size s1 _ h1 hr ?_ ?_); exact rfl) | (go_at_call 22; refine (HT.out _).mono ?_; rintro e W ⟨rfl, hbc⟩; replace hr := hr.bl hbc; replace hi := hi.bl hbc; replace hq := hq.bl hbc; replace hc2 := hc2.bl hbc; replace hb := below_bl rfl hb hbc) | ((with_reducible refine st_h (w.heap.size + 2) _ (trapH h 2 v) hq ?_ ?_ ?_); exact rfl; exact rfl; intro W hnew ho; replace hr := hr.only ho (by omega); replace hi := hi.only ho (by omega); replace hc2 := hc2.only ho (by omega); replace hq := hnew; replace hb := ho.bel _ _ (by omega) hb))
    refine bodyPost_ret (results_cell_row Tryd.results26 _ _ (w.heap.size + 2) _ _ _ _ rfl hq Tryd.underlying31 rfl size_hart) rfl ?_
    exact ⟨rfl, hb⟩

set_option maxHeartbeats 2000000 in
theorem control_51nC (h : H) (ok : h.Ok) (rd s1 s2 : Nat) (im cs : Int) (hrd : rd < 32) (h1 : s1 < 32) (v l : Nat) (hl : l < 4294967296) (h0 : rd = 0) (c : S8) (hc : c.Ok) (hW : writeN h.c cs (mixN 51 0 (h.x s1)) = (c, 0)) (w : World) :
    Calls Tryd.prog 26 #[.agg h.cells, .agg (I6.cells ⟨51, (rd : Nat), (s1 : Nat), (s2 : Nat), im, cs⟩), .int .u32 v, .int .u32 l] w fun e w' => e = .returned (.agg (nextH (writeH (withC h c) 0 0)).cells) ∧ Below w.heap.size w w' := by
  have b1 : (0 : Int) ≤ s1 := by omega
  have b2 : (s1 : Int) < 32 := by omega
  subst h0
  have HM : Hid (∀ z : Int, z = (((h.x s1) : Nat) : Int) → ∀ w, Calls Tryd.prog 54 #[.int .i64 51, .int .u32 0, .int .u32 z] w fun e w' => e = .returned (.int .u32 ((mixN 51 0 (h.x s1)) : Nat)) ∧ w' = w) := hide (fun z hz w => by rw [hz]; exact mixed_51 0 (h.x s1) (by decide : 0 < 4294967296) (ok.x s1) w)
  have HW := hide (fun w => cs_write_bl h.c ok.c cs (mixN 51 0 (h.x s1)) (mixN_lt 51 (by decide : 0 < 4294967296) (ok.x s1)) w)
  rw [hW] at HW
  simp only [errW] at HW
  clear hW
  generalize (mixN 51 0 (h.x s1)) = M at HM HW
  have ok' : H.Ok (withC h c) := ⟨ok.pc, ok.x, hc⟩
  have HWr := hide (fun w => write_any (withC h c) 0 (by decide) 0 w)
  have HN := hide (fun w => next_any _ (writeH_ok ok' 0 (by decide : 0 < 4294967296)) w)
  rw [show (((0 : Nat) : Int)) = 0 from rfl] at HWr
  go_enter Tryd.func26, Tryd.ntmps26
  go_wp2_with (first | ((with_reducible refine bx_h w.heap.size h ?_ ?_ ?_); exact rfl; exact rfl; intro W hr hb hz) | ((with_reducible refine bx_i (w.heap.size + 1) ⟨51, ((0 : Nat) : Int), (s1 : Nat), (s2 : Nat), im, cs⟩ ?_ ?_ ?_); exact hz.out; exact rfl; intro W hi hb' hz'; replace hr := hr.bl (hz.out ▸ hb'); replace hb := hb.trans (hb'.mono (by omega)); replace hz := hz') | ((with_reducible refine al_h (w.heap.size + 2) ?_ ?_); exact hz.out; intro W hq hb' hz'; replace hr := hr.bl (hz.out ▸ hb'); replace hi := hi.bl (hz.out ▸ hb'); replace hb := hb.trans (hb'.mono (by omega)); replace hz := hz'; have qa : W.cell? ⟨w.heap.size + 1, 0, none⟩ = some (.int .i64 51) := hi.cell 0; have qb : W.cell? ⟨w.heap.size + 1, 1, none⟩ = some (.int .i64 0) := hi.cell 1; have qc : W.cell? ⟨w.heap.size + 1, 2, none⟩ = some (.int .i64 (s1 : Nat)) := hi.cell 2) | ((with_reducible refine al_c (w.heap.size + 3) ?_ ?_); exact hz.out; intro W hc2 hb' hz'; replace hr := hr.bl (hz.out ▸ hb'); replace hi := hi.bl (hz.out ▸ hb'); replace hq := hq.bl (hz.out ▸ hb'); replace hb := hb.trans (hb'.mono (by omega)); replace hz := hz'; have qa : W.cell? ⟨w.heap.size + 1, 0, none⟩ = some (.int .i64 51) := hi.cell 0; have qb : W.cell? ⟨w.heap.size + 1, 1, none⟩ = some (.int .i64 0) := hi.cell 1; have qc : W.cell? ⟨w.heap.size + 1, 2, none⟩ = some (.int .i64 (s1 : Nat)) := hi.cell 2) | ((with_reducible refine st_s (w.heap.size + 3) _ h.c hc2 ?_ ?_ ?_); exact rfl; exact rfl; intro W hnew ho; replace hr := hr.only ho (by omega); replace hi := hi.only ho (by omega); replace hq := hq.only ho (by omega); replace hc2 := hnew; replace hb := ho.bel _ _ (by omega) hb; have qa : W.cell? ⟨w.heap.size + 1, 0, none⟩ = some (.int .i64 51) := hi.cell 0; have qb : W.cell? ⟨w.heap.size + 1, 1, none⟩ = some (.int .i64 0) := hi.cell 1; have qc : W.cell? ⟨w.heap.size + 1, 2, none⟩ = some (.int .i64 (s1 : Nat)) := hi.cell 2) | ((with_reducible refine ld_h w.heap.size _ hr ?_ ?_); exact rfl) | ((with_reducible refine ld_c w.heap.size _ hr ?_ ?_); exact rfl) | ((with_reducible refine ld_s (w.heap.size + 3) _ hc2 ?_ ?_); exact rfl) | ((with_reducible refine ld_op (w.heap.size + 1) _ hi ?_ ?_); exact rfl) | ((with_reducible refine ld_rd (w.heap.size + 1) _ hi ?_ ?_); exact rfl) | ((with_reducible refine ld_rs1 (w.heap.size + 1) _ hi ?_ ?_); exact rfl) | ((with_reducible refine ld_csr (w.heap.size + 1) _ hi ?_ ?_); exact rfl) | ((with_reducible refine ld_x w.heap.size s1 _ h1 hr ?_ ?_); exact rfl))
  refine wp_region_held_drew (S := (fun V => RowAt V w.heap.size h.cells 31 ∧ RowAt V (w.heap.size + 1) (I6.cells ⟨51, ((0 : Nat) : Int), (s1 : Nat), (s2 : Nat), im, cs⟩) 61 ∧ (RowAt V (w.heap.size + 3) h.c.cells 29 ∨ RowAt V (w.heap.size + 3) c.cells 29) ∧ Below w.heap.size w V)) (by kernel_rfl) ?_ (fun hHeld => ?_)
  · exact ⟨hr.dr, hi.dr, Or.inl hc2.dr, hb.drew⟩
  replace hq := hq.dr
  replace hc2 := hc2.dr
  refine wpAnyH_take (i := 1) (oi := ?oi23) (v := .pointer (some ⟨w.heap.size + 1, 5, none⟩)) ?hi23 (by kernel_rfl) (by kernel_rfl) (by kernel_rfl) ?hQ23 ?hy23 (by assumption) ?rest23
  case hi23 => (simp only [List.getElem?_toArray, List.getElem?_cons_zero, List.getElem?_cons_succ]; rfl)
  case hQ23 => exact fun _ _ _ h => h
  case hy23 => exact Or.inl ⟨by rfl, by (intro w hSw; (try dsimp only at hSw); go_simp )⟩
  simp only [Act.put, List.setIfInBounds_toArray, List.set_cons_zero, List.set_cons_succ]
  refine wpAnyH_take (i := 2) (oi := ?oi24) (v := .int .i64 cs) ?hi24 (by kernel_rfl) (by kernel_rfl) (by kernel_rfl) ?hQ24 ?hy24 (by assumption) ?rest24
  case hi24 => (simp only [List.getElem?_toArray, List.getElem?_cons_zero, List.getElem?_cons_succ]; rfl)
  case hQ24 => exact fun _ _ _ h => h
  case hy24 => exact y_int (w.heap.size + 1) 5 _ (fun V hV => (hV.2.1.cell 5).trans rfl) rfl
  simp only [Act.put, List.setIfInBounds_toArray, List.set_cons_zero, List.set_cons_succ]
  refine wpAnyH_take (i := 3) (oi := ?oi25) (v := .pointer (some ⟨w.heap.size + 1, 0, none⟩)) ?hi25 (by kernel_rfl) (by kernel_rfl) (by kernel_rfl) ?hQ25 ?hy25 (by assumption) ?rest25
  case hi25 => (simp only [List.getElem?_toArray, List.getElem?_cons_zero, List.getElem?_cons_succ]; rfl)
  case hQ25 => exact fun _ _ _ h => h
  case hy25 => exact Or.inl ⟨by rfl, by (intro w hSw; (try dsimp only at hSw); go_simp )⟩
  simp only [Act.put, List.setIfInBounds_toArray, List.set_cons_zero, List.set_cons_succ]
  refine wpAnyH_take (i := 4) (oi := ?oi26) (v := .int .i64 51) ?hi26 (by kernel_rfl) (by kernel_rfl) (by kernel_rfl) ?hQ26 ?hy26 (by assumption) ?rest26
  case hi26 => (simp only [List.getElem?_toArray, List.getElem?_cons_zero, List.getElem?_cons_succ]; rfl)
  case hQ26 => exact fun _ _ _ h => h
  case hy26 => exact y_int (w.heap.size + 1) 0 _ (fun V hV => (hV.2.1.cell 0).trans rfl) rfl
  simp only [Act.put, List.setIfInBounds_toArray, List.set_cons_zero, List.set_cons_succ]
  refine wpAnyH_take (i := 5) (oi := ?oi27) (v := .int .u32 0) ?hi27 (by kernel_rfl) (by kernel_rfl) (by kernel_rfl) ?hQ27 ?hy27 (by assumption) ?rest27
  case hi27 => (simp only [List.getElem?_toArray, List.getElem?_cons_zero, List.getElem?_cons_succ]; rfl)
  case hQ27 => exact fun _ _ _ h => h
  case hy27 => exact Or.inl ⟨by rfl, by (intro w hSw; (try dsimp only at hSw); go_simp )⟩
  simp only [Act.put, List.setIfInBounds_toArray, List.set_cons_zero, List.set_cons_succ]
  refine wpAnyH_take (i := 6) (oi := ?oi28) (v := .int .u32 ((h.x s1) : Nat)) ?hi28 (by kernel_rfl) (by kernel_rfl) (by kernel_rfl) ?hQ28 ?hy28 (by assumption) ?rest28
  case hi28 => (simp only [List.getElem?_toArray, List.getElem?_cons_zero, List.getElem?_cons_succ]; rfl)
  case hQ28 => exact fun _ _ _ h => h
  case hy28 => exact Or.inl ⟨by rfl, by (intro w hSw; (try dsimp only at hSw); go_simp <;> omega)⟩
  simp only [Act.put, List.setIfInBounds_toArray, List.set_cons_zero, List.set_cons_succ]
  refine wpAnyH_ready (rs := [0, 7]) (by kernel_rfl) (by simp) ?_
  refine AllReadyH.cons (o := ?oi29) ?hi29 (fun K hK => ?b29) (AllReadyH.cons (o := ?oi30) ?hi30 (fun K hK => ?b30) AllReadyH.nil)
  case hi29 => (simp only [List.getElem?_toArray, List.getElem?_cons_zero]; rfl)
  case hi30 => (simp only [List.getElem?_toArray, List.getElem?_cons_zero, List.getElem?_cons_succ]; rfl)
  case b29 =>
    rw [if_pos (by rfl)]
    (with_reducible refine w_ld_s (w.heap.size + 3) h.c hc2 ?_ ?_)
    · exact rfl
    simp only [Act.put, List.setIfInBounds_toArray, List.set_cons_zero, List.set_cons_succ]
    refine hK.out _ _ ?_ (fun hHeld => ?_)
    · exact hHeld
    clear hK K
    refine wpAnyH_ready (rs := [7]) (by kernel_rfl) (by simp) ?_
    refine AllReadyH.cons (o := ?oi31) ?hi31 (fun K hK => ?_) AllReadyH.nil
    case hi31 => (simp only [List.getElem?_toArray, List.getElem?_cons_zero, List.getElem?_cons_succ]; rfl)
    go_simp
    refine (HM.out _ ?_ _).mono ?_
    · first | rfl | omega
    rintro e V ⟨rfl, rfl⟩
    go_simp
    refine hK.out _ _ ?_ (fun hHeld => ?_)
    · exact hHeld
    clear hK K
    refine wpAnyH_ready (rs := [8]) (by kernel_rfl) (by simp) ?_
    refine AllReadyH.cons (o := ?oi32) ?hi32 (fun K hK => ?_) AllReadyH.nil
    case hi32 => (simp only [List.getElem?_toArray, List.getElem?_cons_zero, List.getElem?_cons_succ]; rfl)
    go_simp
    refine (HW.out _).mono ?_
    rintro e V ⟨rfl, hbc⟩
    replace hr := hHeld.1.bl hbc
    replace hi := hHeld.2.1.bl hbc
    replace hb := below_bl rfl hHeld.2.2.2 hbc
    replace hq := hq.bl hbc
    replace hc2 := hc2.bl hbc
    clear hHeld
    go_simp
    refine hK.out _ _ ?_ (fun hHeld => ?_)
    · exact ⟨hr, hi, Or.inl hc2, hb⟩
    clear hK K
    refine wpAnyH_take (i := 9) (oi := ?oi33) (v := .tuple #[.agg c.cells, .nilIface]) ?hi33 (by kernel_rfl) (by kernel_rfl) (by kernel_rfl) ?hQ33 ?hy33 (by assumption) ?rest33
    case hi33 => (simp only [List.getElem?_toArray, List.getElem?_cons_zero, List.getElem?_cons_succ]; rfl)
    case hQ33 => exact fun _ _ _ h => h
    case hy33 => exact Or.inl ⟨by rfl, by (intro w hSw; (try dsimp only at hSw); go_simp )⟩
    simp only [Act.put, List.setIfInBounds_toArray, List.set_cons_zero, List.set_cons_succ]
    refine wpAnyH_take (i := 10) (oi := ?oi34) (v := .agg c.cells) ?hi34 (by kernel_rfl) (by kernel_rfl) (by kernel_rfl) ?hQ34 ?hy34 (by assumption) ?rest34
    case hi34 => (simp only [List.getElem?_toArray, List.getElem?_cons_zero, List.getElem?_cons_succ]; rfl)
    case hQ34 => exact fun _ _ _ h => h
    case hy34 => exact Or.inl ⟨by rfl, by (intro w hSw; (try dsimp only at hSw); go_simp )⟩
    simp only [Act.put, List.setIfInBounds_toArray, List.set_cons_zero, List.set_cons_succ]
    refine wpAnyH_take (i := 11) (oi := ?oi35) (v := .nilIface) ?hi35 (by kernel_rfl) (by kernel_rfl) (by kernel_rfl) ?hQ35 ?hy35 (by assumption) ?rest35
    case hi35 => (simp only [List.getElem?_toArray, List.getElem?_cons_zero, List.getElem?_cons_succ]; rfl)
    case hQ35 => exact fun _ _ _ h => h
    case hy35 => exact Or.inl ⟨by rfl, by (intro w hSw; (try dsimp only at hSw); go_simp )⟩
    simp only [Act.put, List.setIfInBounds_toArray, List.set_cons_zero, List.set_cons_succ]
    refine wpAnyH_ready (rs := [12]) (by kernel_rfl) (by simp) ?_
    refine AllReadyH.cons (o := ?oi36) ?hi36 (fun K hK => ?_) AllReadyH.nil
    case hi36 => (simp only [List.getElem?_toArray, List.getElem?_cons_zero, List.getElem?_cons_succ]; rfl)
    rw [if_pos (by rfl)]
    (with_reducible refine s_s (w.heap.size + 3) _ c hc2 ?_ ?_ ?_)
    · exact rfl
    · exact rfl
    intro W hnew ho
    replace hr := hr.only ho (by omega)
    replace hi := hi.only ho (by omega)
    replace hq := hq.only ho (by omega)
    replace hb := ho.bel _ _ (by omega) hb
    replace hc2 := hnew
    clear hHeld
    refine hK.out _ _ ?_ (fun hHeld => ?_)
    · exact ⟨hr, hi, Or.inr hc2, hb⟩
    clear hK K
    refine wpAnyH_take (i := 13) (oi := ?oi37) (v := .nilIface) ?hi37 (by kernel_rfl) (by kernel_rfl) (by kernel_rfl) ?hQ37 ?hy37 (by assumption) ?rest37
    case hi37 => (simp only [List.getElem?_toArray, List.getElem?_cons_zero, List.getElem?_cons_succ]; rfl)
    case hQ37 => exact fun _ _ _ h => h
    case hy37 => exact Or.inl ⟨by rfl, by (intro w hSw; (try dsimp only at hSw); go_simp )⟩
    simp only [Act.put, List.setIfInBounds_toArray, List.set_cons_zero, List.set_cons_succ]
    refine wpAnyH_done (by kernel_rfl) ?_ _
    have qa : W.cell? ⟨w.heap.size + 1, 0, none⟩ = some (.int .i64 51) := hi.cell 0
    have qb : W.cell? ⟨w.heap.size + 1, 1, none⟩ = some (.int .i64 0) := hi.cell 1
    have qc : W.cell? ⟨w.heap.size + 1, 2, none⟩ = some (.int .i64 (s1 : Nat)) := hi.cell 2
    go_wp2_with (first | ((with_reducible refine ld_h w.heap.size _ hr ?_ ?_); exact rfl) | ((with_reducible refine ld_c w.heap.size _ hr ?_ ?_); exact rfl) | ((with_reducible refine ld_s (w.heap.size + 3) _ hc2 ?_ ?_); exact rfl) | ((with_reducible refine ld_op (w.heap.size + 1) _ hi ?_ ?_); exact rfl) | ((with_reducible refine ld_rd (w.heap.size + 1) _ hi ?_ ?_); exact rfl) | ((with_reducible refine ld_rs1 (w.heap.size + 1) _ hi ?_ ?_); exact rfl) | ((with_reducible refine ld_csr (w.heap.size + 1) _ hi ?_ ?_); exact rfl) | ((with_reducible refine ld_x w.heap.size s1 _ h1 hr ?_ ?_); exact rfl) | ((with_reducible refine st_c w.heap.size _ c hr ?_ ?_ ?_); exact rfl; exact rfl; intro W hnew ho; replace hi := hi.only ho (by omega); replace hq := hq.only ho (by omega); replace hc2 := hc2.only ho (by omega); replace hr := hnew; replace hb := ho.bel _ _ (by omega) hb) | (go_at_call 46; refine (HWr.out _).mono ?_; rintro e W ⟨rfl, hbc⟩; replace hr := hr.bl hbc; replace hi := hi.bl hbc; replace hq := hq.bl hbc; replace hc2 := hc2.bl hbc; replace hb := below_bl rfl hb hbc) | (go_at_call 45; refine (HN.out _).mono ?_; rintro e W ⟨rfl, hbc⟩; replace hr := hr.bl hbc; replace hi := hi.bl hbc; replace hq := hq.bl hbc; replace hc2 := hc2.bl hbc; replace hb := below_bl rfl hb hbc) | ((with_reducible refine st_h (w.heap.size + 2) _ (nextH (writeH (withC h c) 0 0)) hq ?_ ?_ ?_); exact rfl; exact rfl; intro W hnew ho; replace hr := hr.only ho (by omega); replace hi := hi.only ho (by omega); replace hc2 := hc2.only ho (by omega); replace hq := hnew; replace hb := ho.bel _ _ (by omega) hb))
    refine bodyPost_ret (results_cell_row Tryd.results26 _ _ (w.heap.size + 2) _ _ _ _ rfl hq Tryd.underlying31 rfl size_hart) rfl ?_
    exact ⟨rfl, hb⟩
  case b30 =>
    go_simp
    refine (HM.out _ ?_ _).mono ?_
    · first | rfl | omega
    rintro e V ⟨rfl, rfl⟩
    go_simp
    refine hK.out _ _ ?_ (fun hHeld => ?_)
    · exact hHeld
    clear hK K
    refine wpAnyH_ready (rs := [0]) (by kernel_rfl) (by simp) ?_
    refine AllReadyH.cons (o := ?oi38) ?hi38 (fun K hK => ?_) AllReadyH.nil
    case hi38 => (simp only [List.getElem?_toArray, List.getElem?_cons_zero]; rfl)
    rw [if_pos (by rfl)]
    (with_reducible refine w_ld_s (w.heap.size + 3) h.c hc2 ?_ ?_)
    · exact rfl
    simp only [Act.put, List.setIfInBounds_toArray, List.set_cons_zero, List.set_cons_succ]
    refine hK.out _ _ ?_ (fun hHeld => ?_)
    · exact hHeld
    clear hK K
    refine wpAnyH_ready (rs := [8]) (by kernel_rfl) (by simp) ?_
    refine AllReadyH.cons (o := ?oi39) ?hi39 (fun K hK => ?_) AllReadyH.nil
    case hi39 => (simp only [List.getElem?_toArray, List.getElem?_cons_zero, List.getElem?_cons_succ]; rfl)
    go_simp
    refine (HW.out _).mono ?_
    rintro e V ⟨rfl, hbc⟩
    replace hr := hHeld.1.bl hbc
    replace hi := hHeld.2.1.bl hbc
    replace hb := below_bl rfl hHeld.2.2.2 hbc
    replace hq := hq.bl hbc
    replace hc2 := hc2.bl hbc
    clear hHeld
    go_simp
    refine hK.out _ _ ?_ (fun hHeld => ?_)
    · exact ⟨hr, hi, Or.inl hc2, hb⟩
    clear hK K
    refine wpAnyH_take (i := 9) (oi := ?oi40) (v := .tuple #[.agg c.cells, .nilIface]) ?hi40 (by kernel_rfl) (by kernel_rfl) (by kernel_rfl) ?hQ40 ?hy40 (by assumption) ?rest40
    case hi40 => (simp only [List.getElem?_toArray, List.getElem?_cons_zero, List.getElem?_cons_succ]; rfl)
    case hQ40 => exact fun _ _ _ h => h
    case hy40 => exact Or.inl ⟨by rfl, by (intro w hSw; (try dsimp only at hSw); go_simp )⟩
    simp only [Act.put, List.setIfInBounds_toArray, List.set_cons_zero, List.set_cons_succ]
    refine wpAnyH_take (i := 10) (oi := ?oi41) (v := .agg c.cells) ?hi41 (by kernel_rfl) (by kernel_rfl) (by kernel_rfl) ?hQ41 ?hy41 (by assumption) ?rest41
    case hi41 => (simp only [List.getElem?_toArray, List.getElem?_cons_zero, List.getElem?_cons_succ]; rfl)
    case hQ41 => exact fun _ _ _ h => h
    case hy41 => exact Or.inl ⟨by rfl, by (intro w hSw; (try dsimp only at hSw); go_simp )⟩
    simp only [Act.put, List.setIfInBounds_toArray, List.set_cons_zero, List.set_cons_succ]
    refine wpAnyH_take (i := 11) (oi := ?oi42) (v := .nilIface) ?hi42 (by kernel_rfl) (by kernel_rfl) (by kernel_rfl) ?hQ42 ?hy42 (by assumption) ?rest42
    case hi42 => (simp only [List.getElem?_toArray, List.getElem?_cons_zero, List.getElem?_cons_succ]; rfl)
    case hQ42 => exact fun _ _ _ h => h
    case hy42 => exact Or.inl ⟨by rfl, by (intro w hSw; (try dsimp only at hSw); go_simp )⟩
    simp only [Act.put, List.setIfInBounds_toArray, List.set_cons_zero, List.set_cons_succ]
    refine wpAnyH_ready (rs := [12]) (by kernel_rfl) (by simp) ?_
    refine AllReadyH.cons (o := ?oi43) ?hi43 (fun K hK => ?_) AllReadyH.nil
    case hi43 => (simp only [List.getElem?_toArray, List.getElem?_cons_zero, List.getElem?_cons_succ]; rfl)
    rw [if_pos (by rfl)]
    (with_reducible refine s_s (w.heap.size + 3) _ c hc2 ?_ ?_ ?_)
    · exact rfl
    · exact rfl
    intro W hnew ho
    replace hr := hr.only ho (by omega)
    replace hi := hi.only ho (by omega)
    replace hq := hq.only ho (by omega)
    replace hb := ho.bel _ _ (by omega) hb
    replace hc2 := hnew
    clear hHeld
    refine hK.out _ _ ?_ (fun hHeld => ?_)
    · exact ⟨hr, hi, Or.inr hc2, hb⟩
    clear hK K
    refine wpAnyH_take (i := 13) (oi := ?oi44) (v := .nilIface) ?hi44 (by kernel_rfl) (by kernel_rfl) (by kernel_rfl) ?hQ44 ?hy44 (by assumption) ?rest44
    case hi44 => (simp only [List.getElem?_toArray, List.getElem?_cons_zero, List.getElem?_cons_succ]; rfl)
    case hQ44 => exact fun _ _ _ h => h
    case hy44 => exact Or.inl ⟨by rfl, by (intro w hSw; (try dsimp only at hSw); go_simp )⟩
    simp only [Act.put, List.setIfInBounds_toArray, List.set_cons_zero, List.set_cons_succ]
    refine wpAnyH_done (by kernel_rfl) ?_ _
    have qa : W.cell? ⟨w.heap.size + 1, 0, none⟩ = some (.int .i64 51) := hi.cell 0
    have qb : W.cell? ⟨w.heap.size + 1, 1, none⟩ = some (.int .i64 0) := hi.cell 1
    have qc : W.cell? ⟨w.heap.size + 1, 2, none⟩ = some (.int .i64 (s1 : Nat)) := hi.cell 2
    go_wp2_with (first | ((with_reducible refine ld_h w.heap.size _ hr ?_ ?_); exact rfl) | ((with_reducible refine ld_c w.heap.size _ hr ?_ ?_); exact rfl) | ((with_reducible refine ld_s (w.heap.size + 3) _ hc2 ?_ ?_); exact rfl) | ((with_reducible refine ld_op (w.heap.size + 1) _ hi ?_ ?_); exact rfl) | ((with_reducible refine ld_rd (w.heap.size + 1) _ hi ?_ ?_); exact rfl) | ((with_reducible refine ld_rs1 (w.heap.size + 1) _ hi ?_ ?_); exact rfl) | ((with_reducible refine ld_csr (w.heap.size + 1) _ hi ?_ ?_); exact rfl) | ((with_reducible refine ld_x w.heap.size s1 _ h1 hr ?_ ?_); exact rfl) | ((with_reducible refine st_c w.heap.size _ c hr ?_ ?_ ?_); exact rfl; exact rfl; intro W hnew ho; replace hi := hi.only ho (by omega); replace hq := hq.only ho (by omega); replace hc2 := hc2.only ho (by omega); replace hr := hnew; replace hb := ho.bel _ _ (by omega) hb) | (go_at_call 46; refine (HWr.out _).mono ?_; rintro e W ⟨rfl, hbc⟩; replace hr := hr.bl hbc; replace hi := hi.bl hbc; replace hq := hq.bl hbc; replace hc2 := hc2.bl hbc; replace hb := below_bl rfl hb hbc) | (go_at_call 45; refine (HN.out _).mono ?_; rintro e W ⟨rfl, hbc⟩; replace hr := hr.bl hbc; replace hi := hi.bl hbc; replace hq := hq.bl hbc; replace hc2 := hc2.bl hbc; replace hb := below_bl rfl hb hbc) | ((with_reducible refine st_h (w.heap.size + 2) _ (nextH (writeH (withC h c) 0 0)) hq ?_ ?_ ?_); exact rfl; exact rfl; intro W hnew ho; replace hr := hr.only ho (by omega); replace hi := hi.only ho (by omega); replace hc2 := hc2.only ho (by omega); replace hq := hnew; replace hb := ho.bel _ _ (by omega) hb))
    refine bodyPost_ret (results_cell_row Tryd.results26 _ _ (w.heap.size + 2) _ _ _ _ rfl hq Tryd.underlying31 rfl size_hart) rfl ?_
    exact ⟨rfl, hb⟩

set_option maxHeartbeats 2000000 in
theorem control_51rA (h : H) (ok : h.Ok) (rd s1 s2 : Nat) (im cs : Int) (hrd : rd < 32) (h1 : s1 < 32) (v l : Nat) (hl : l < 4294967296) (h0 : rd ≠ 0) (hR : readN h.c cs l = none) (w : World) :
    Calls Tryd.prog 26 #[.agg h.cells, .agg (I6.cells ⟨51, (rd : Nat), (s1 : Nat), (s2 : Nat), im, cs⟩), .int .u32 v, .int .u32 l] w fun e w' => e = .returned (.agg (trapH h 2 v).cells) ∧ Below w.heap.size w w' := by
  have b1 : (0 : Int) ≤ s1 := by omega
  have b2 : (s1 : Int) < 32 := by omega
  have t1 : ((rd : Int) != 0) = true := by simp; omega
  clear h0
  have HR := hide (fun w => cs_read_bl h.c ok.c cs l hl w)
  rw [hR] at HR
  simp only [readV] at HR
  clear hR
  have HT := hide (fun w => trap_any h ok 2 v (by decide) w)
  rw [show (((2 : Nat) : Int)) = 2 from rfl] at HT
  go_enter Tryd.func26, Tryd.ntmps26
  go_wp2_with (first | ((with_reducible refine bx_h w.heap.size h ?_ ?_ ?_); exact rfl; exact rfl; intro W hr hb hz) | ((with_reducible refine bx_i (w.heap.size + 1) ⟨51, (rd : Nat), (s1 : Nat), (s2 : Nat), im, cs⟩ ?_ ?_ ?_); exact hz.out; exact rfl; intro W hi hb' hz'; replace hr := hr.bl (hz.out ▸ hb'); replace hb := hb.trans (hb'.mono (by omega)); replace hz := hz') | ((with_reducible refine al_h (w.heap.size + 2) ?_ ?_); exact hz.out; intro W hq hb' hz'; replace hr := hr.bl (hz.out ▸ hb'); replace hi := hi.bl (hz.out ▸ hb'); replace hb := hb.trans (hb'.mono (by omega)); replace hz := hz'; have qa : W.cell? ⟨w.heap.size + 1, 0, none⟩ = some (.int .i64 51) := hi.cell 0; have qb : W.cell? ⟨w.heap.size + 1, 1, none⟩ = some (.int .i64 (rd : Nat)) := hi.cell 1; have qc : W.cell? ⟨w.heap.size + 1, 2, none⟩ = some (.int .i64 (s1 : Nat)) := hi.cell 2) | ((with_reducible refine al_c (w.heap.size + 3) ?_ ?_); exact hz.out; intro W hc2 hb' hz'; replace hr := hr.bl (hz.out ▸ hb'); replace hi := hi.bl (hz.out ▸ hb'); replace hq := hq.bl (hz.out ▸ hb'); replace hb := hb.trans (hb'.mono (by omega)); replace hz := hz'; have qa : W.cell? ⟨w.heap.size + 1, 0, none⟩ = some (.int .i64 51) := hi.cell 0; have qb : W.cell? ⟨w.heap.size + 1, 1, none⟩ = some (.int .i64 (rd : Nat)) := hi.cell 1; have qc : W.cell? ⟨w.heap.size + 1, 2, none⟩ = some (.int .i64 (s1 : Nat)) := hi.cell 2) | ((with_reducible refine st_s (w.heap.size + 3) _ h.c hc2 ?_ ?_ ?_); exact rfl; exact rfl; intro W hnew ho; replace hr := hr.only ho (by omega); replace hi := hi.only ho (by omega); replace hq := hq.only ho (by omega); replace hc2 := hnew; replace hb := ho.bel _ _ (by omega) hb; have qa : W.cell? ⟨w.heap.size + 1, 0, none⟩ = some (.int .i64 51) := hi.cell 0; have qb : W.cell? ⟨w.heap.size + 1, 1, none⟩ = some (.int .i64 (rd : Nat)) := hi.cell 1; have qc : W.cell? ⟨w.heap.size + 1, 2, none⟩ = some (.int .i64 (s1 : Nat)) := hi.cell 2) | (go_at_call 52; refine (HR.out _).mono ?_; rintro e W ⟨rfl, hbc⟩; replace hr := hr.bl hbc; replace hi := hi.bl hbc; replace hq := hq.bl hbc; replace hc2 := hc2.bl hbc; replace hb := below_bl rfl hb hbc; have qa : W.cell? ⟨w.heap.size + 1, 0, none⟩ = some (.int .i64 51) := hi.cell 0; have qb : W.cell? ⟨w.heap.size + 1, 1, none⟩ = some (.int .i64 (rd : Nat)) := hi.cell 1; have qc : W.cell? ⟨w.heap.size + 1, 2, none⟩ = some (.int .i64 (s1 : Nat)) := hi.cell 2) | ((with_reducible refine ld_h w.heap.size _ hr ?_ ?_); exact rfl) | ((with_reducible refine ld_c w.heap.size _ hr ?_ ?_); exact rfl) | ((with_reducible refine ld_s (w.heap.size + 3) _ hc2 ?_ ?_); exact rfl) | ((with_reducible refine ld_op (w.heap.size + 1) _ hi ?_ ?_); exact rfl) | ((with_reducible refine ld_rd (w.heap.size + 1) _ hi ?_ ?_); exact rfl) | ((with_reducible refine ld_rs1 (w.heap.size + 1) _ hi ?_ ?_); exact rfl) | ((with_reducible refine ld_csr (w.heap.size + 1) _ hi ?_ ?_); exact rfl) | ((with_reducible refine ld_x w.heap.size s1 _ h1 hr ?_ ?_); exact rfl) | (go_at_call 22; refine (HT.out _).mono ?_; rintro e W ⟨rfl, hbc⟩; replace hr := hr.bl hbc; replace hi := hi.bl hbc; replace hq := hq.bl hbc; replace hc2 := hc2.bl hbc; replace hb := below_bl rfl hb hbc) | ((with_reducible refine st_h (w.heap.size + 2) _ (trapH h 2 v) hq ?_ ?_ ?_); exact rfl; exact rfl; intro W hnew ho; replace hr := hr.only ho (by omega); replace hi := hi.only ho (by omega); replace hc2 := hc2.only ho (by omega); replace hq := hnew; replace hb := ho.bel _ _ (by omega) hb))
  refine bodyPost_ret (results_cell_row Tryd.results26 _ _ (w.heap.size + 2) _ _ _ _ rfl hq Tryd.underlying31 rfl size_hart) rfl ?_
  exact ⟨rfl, hb⟩

set_option maxHeartbeats 2000000 in
theorem control_51rB (h : H) (ok : h.Ok) (rd s1 s2 : Nat) (im cs : Int) (hrd : rd < 32) (h1 : s1 < 32) (v l : Nat) (hl : l < 4294967296) (h0 : rd ≠ 0) (old : Nat) (hold : old < 4294967296) (hR : readN h.c cs l = some old) (c : S8) (k : Nat) (hW : writeN h.c cs (mixN 51 old (h.x s1)) = (c, k + 1)) (w : World) :
    Calls Tryd.prog 26 #[.agg h.cells, .agg (I6.cells ⟨51, (rd : Nat), (s1 : Nat), (s2 : Nat), im, cs⟩), .int .u32 v, .int .u32 l] w fun e w' => e = .returned (.agg (trapH h 2 v).cells) ∧ Below w.heap.size w w' := by
  have b1 : (0 : Int) ≤ s1 := by omega
  have b2 : (s1 : Int) < 32 := by omega
  have t1 : ((rd : Int) != 0) = true := by simp; omega
  clear h0
  have HR := hide (fun w => cs_read_bl h.c ok.c cs l hl w)
  rw [hR] at HR
  simp only [readV] at HR
  clear hR
  have HM : Hid (∀ z : Int, z = (((h.x s1) : Nat) : Int) → ∀ w, Calls Tryd.prog 54 #[.int .i64 51, .int .u32 old, .int .u32 z] w fun e w' => e = .returned (.int .u32 ((mixN 51 old (h.x s1)) : Nat)) ∧ w' = w) := hide (fun z hz w => by rw [hz]; exact mixed_51 old (h.x s1) hold (ok.x s1) w)
  have HW := hide (fun w => cs_write_bl h.c ok.c cs (mixN 51 old (h.x s1)) (mixN_lt 51 hold (ok.x s1)) w)
  rw [hW] at HW
  simp only [errW] at HW
  clear hW
  generalize (mixN 51 old (h.x s1)) = M at HM HW
  have HT := hide (fun w => trap_any h ok 2 v (by decide) w)
  rw [show (((2 : Nat) : Int)) = 2 from rfl] at HT
  go_enter Tryd.func26, Tryd.ntmps26
  go_wp2_with (first | ((with_reducible refine bx_h w.heap.size h ?_ ?_ ?_); exact rfl; exact rfl; intro W hr hb hz) | ((with_reducible refine bx_i (w.heap.size + 1) ⟨51, (rd : Nat), (s1 : Nat), (s2 : Nat), im, cs⟩ ?_ ?_ ?_); exact hz.out; exact rfl; intro W hi hb' hz'; replace hr := hr.bl (hz.out ▸ hb'); replace hb := hb.trans (hb'.mono (by omega)); replace hz := hz') | ((with_reducible refine al_h (w.heap.size + 2) ?_ ?_); exact hz.out; intro W hq hb' hz'; replace hr := hr.bl (hz.out ▸ hb'); replace hi := hi.bl (hz.out ▸ hb'); replace hb := hb.trans (hb'.mono (by omega)); replace hz := hz'; have qa : W.cell? ⟨w.heap.size + 1, 0, none⟩ = some (.int .i64 51) := hi.cell 0; have qb : W.cell? ⟨w.heap.size + 1, 1, none⟩ = some (.int .i64 (rd : Nat)) := hi.cell 1; have qc : W.cell? ⟨w.heap.size + 1, 2, none⟩ = some (.int .i64 (s1 : Nat)) := hi.cell 2) | ((with_reducible refine al_c (w.heap.size + 3) ?_ ?_); exact hz.out; intro W hc2 hb' hz'; replace hr := hr.bl (hz.out ▸ hb'); replace hi := hi.bl (hz.out ▸ hb'); replace hq := hq.bl (hz.out ▸ hb'); replace hb := hb.trans (hb'.mono (by omega)); replace hz := hz'; have qa : W.cell? ⟨w.heap.size + 1, 0, none⟩ = some (.int .i64 51) := hi.cell 0; have qb : W.cell? ⟨w.heap.size + 1, 1, none⟩ = some (.int .i64 (rd : Nat)) := hi.cell 1; have qc : W.cell? ⟨w.heap.size + 1, 2, none⟩ = some (.int .i64 (s1 : Nat)) := hi.cell 2) | ((with_reducible refine st_s (w.heap.size + 3) _ h.c hc2 ?_ ?_ ?_); exact rfl; exact rfl; intro W hnew ho; replace hr := hr.only ho (by omega); replace hi := hi.only ho (by omega); replace hq := hq.only ho (by omega); replace hc2 := hnew; replace hb := ho.bel _ _ (by omega) hb; have qa : W.cell? ⟨w.heap.size + 1, 0, none⟩ = some (.int .i64 51) := hi.cell 0; have qb : W.cell? ⟨w.heap.size + 1, 1, none⟩ = some (.int .i64 (rd : Nat)) := hi.cell 1; have qc : W.cell? ⟨w.heap.size + 1, 2, none⟩ = some (.int .i64 (s1 : Nat)) := hi.cell 2) | (go_at_call 52; refine (HR.out _).mono ?_; rintro e W ⟨rfl, hbc⟩; replace hr := hr.bl hbc; replace hi := hi.bl hbc; replace hq := hq.bl hbc; replace hc2 := hc2.bl hbc; replace hb := below_bl rfl hb hbc; have qa : W.cell? ⟨w.heap.size + 1, 0, none⟩ = some (.int .i64 51) := hi.cell 0; have qb : W.cell? ⟨w.heap.size + 1, 1, none⟩ = some (.int .i64 (rd : Nat)) := hi.cell 1; have qc : W.cell? ⟨w.heap.size + 1, 2, none⟩ = some (.int .i64 (s1 : Nat)) := hi.cell 2) | ((with_reducible refine ld_h w.heap.size _ hr ?_ ?_); exact rfl) | ((with_reducible refine ld_c w.heap.size _ hr ?_ ?_); exact rfl) | ((with_reducible refine ld_s (w.heap.size + 3) _ hc2 ?_ ?_); exact rfl) | ((with_reducible refine ld_op (w.heap.size + 1) _ hi ?_ ?_); exact rfl) | ((with_reducible refine ld_rd (w.heap.size + 1) _ hi ?_ ?_); exact rfl) | ((with_reducible refine ld_rs1 (w.heap.size + 1) _ hi ?_ ?_); exact rfl) | ((with_reducible refine ld_csr (w.heap.size + 1) _ hi ?_ ?_); exact rfl) | ((with_reducible refine ld_x w.heap.size s1 _ h1 hr ?_ ?_); exact rfl))
  refine wp_region_held_drew (S := (fun V => RowAt V w.heap.size h.cells 31 ∧ RowAt V (w.heap.size + 1) (I6.cells ⟨51, (rd : Nat), (s1 : Nat), (s2 : Nat), im, cs⟩) 61 ∧ (RowAt V (w.heap.size + 3) h.c.cells 29 ∨ RowAt V (w.heap.size + 3) c.cells 29) ∧ Below w.heap.size w V)) (by kernel_rfl) ?_ (fun hHeld => ?_)
  · exact ⟨hr.dr, hi.dr, Or.inl hc2.dr, hb.drew⟩
  replace hq := hq.dr
  replace hc2 := hc2.dr
  refine wpAnyH_take (i := 1) (oi := ?oi45) (v := .pointer (some ⟨w.heap.size + 1, 5, none⟩)) ?hi45 (by kernel_rfl) (by kernel_rfl) (by kernel_rfl) ?hQ45 ?hy45 (by assumption) ?rest45
  case hi45 => (simp only [List.getElem?_toArray, List.getElem?_cons_zero, List.getElem?_cons_succ]; rfl)
  case hQ45 => exact fun _ _ _ h => h
  case hy45 => exact Or.inl ⟨by rfl, by (intro w hSw; (try dsimp only at hSw); go_simp )⟩
  simp only [Act.put, List.setIfInBounds_toArray, List.set_cons_zero, List.set_cons_succ]
  refine wpAnyH_take (i := 2) (oi := ?oi46) (v := .int .i64 cs) ?hi46 (by kernel_rfl) (by kernel_rfl) (by kernel_rfl) ?hQ46 ?hy46 (by assumption) ?rest46
  case hi46 => (simp only [List.getElem?_toArray, List.getElem?_cons_zero, List.getElem?_cons_succ]; rfl)
  case hQ46 => exact fun _ _ _ h => h
  case hy46 => exact y_int (w.heap.size + 1) 5 _ (fun V hV => (hV.2.1.cell 5).trans rfl) rfl
  simp only [Act.put, List.setIfInBounds_toArray, List.set_cons_zero, List.set_cons_succ]
  refine wpAnyH_take (i := 3) (oi := ?oi47) (v := .pointer (some ⟨w.heap.size + 1, 0, none⟩)) ?hi47 (by kernel_rfl) (by kernel_rfl) (by kernel_rfl) ?hQ47 ?hy47 (by assumption) ?rest47
  case hi47 => (simp only [List.getElem?_toArray, List.getElem?_cons_zero, List.getElem?_cons_succ]; rfl)
  case hQ47 => exact fun _ _ _ h => h
  case hy47 => exact Or.inl ⟨by rfl, by (intro w hSw; (try dsimp only at hSw); go_simp )⟩
  simp only [Act.put, List.setIfInBounds_toArray, List.set_cons_zero, List.set_cons_succ]
  refine wpAnyH_take (i := 4) (oi := ?oi48) (v := .int .i64 51) ?hi48 (by kernel_rfl) (by kernel_rfl) (by kernel_rfl) ?hQ48 ?hy48 (by assumption) ?rest48
  case hi48 => (simp only [List.getElem?_toArray, List.getElem?_cons_zero, List.getElem?_cons_succ]; rfl)
  case hQ48 => exact fun _ _ _ h => h
  case hy48 => exact y_int (w.heap.size + 1) 0 _ (fun V hV => (hV.2.1.cell 0).trans rfl) rfl
  simp only [Act.put, List.setIfInBounds_toArray, List.set_cons_zero, List.set_cons_succ]
  refine wpAnyH_take (i := 5) (oi := ?oi49) (v := .int .u32 (old : Nat)) ?hi49 (by kernel_rfl) (by kernel_rfl) (by kernel_rfl) ?hQ49 ?hy49 (by assumption) ?rest49
  case hi49 => (simp only [List.getElem?_toArray, List.getElem?_cons_zero, List.getElem?_cons_succ]; rfl)
  case hQ49 => exact fun _ _ _ h => h
  case hy49 => exact Or.inl ⟨by rfl, by (intro w hSw; (try dsimp only at hSw); go_simp )⟩
  simp only [Act.put, List.setIfInBounds_toArray, List.set_cons_zero, List.set_cons_succ]
  refine wpAnyH_take (i := 6) (oi := ?oi50) (v := .int .u32 ((h.x s1) : Nat)) ?hi50 (by kernel_rfl) (by kernel_rfl) (by kernel_rfl) ?hQ50 ?hy50 (by assumption) ?rest50
  case hi50 => (simp only [List.getElem?_toArray, List.getElem?_cons_zero, List.getElem?_cons_succ]; rfl)
  case hQ50 => exact fun _ _ _ h => h
  case hy50 => exact Or.inl ⟨by rfl, by (intro w hSw; (try dsimp only at hSw); go_simp <;> omega)⟩
  simp only [Act.put, List.setIfInBounds_toArray, List.set_cons_zero, List.set_cons_succ]
  refine wpAnyH_ready (rs := [0, 7]) (by kernel_rfl) (by simp) ?_
  refine AllReadyH.cons (o := ?oi51) ?hi51 (fun K hK => ?b51) (AllReadyH.cons (o := ?oi52) ?hi52 (fun K hK => ?b52) AllReadyH.nil)
  case hi51 => (simp only [List.getElem?_toArray, List.getElem?_cons_zero]; rfl)
  case hi52 => (simp only [List.getElem?_toArray, List.getElem?_cons_zero, List.getElem?_cons_succ]; rfl)
  case b51 =>
    rw [if_pos (by rfl)]
    (with_reducible refine w_ld_s (w.heap.size + 3) h.c hc2 ?_ ?_)
    · exact rfl
    simp only [Act.put, List.setIfInBounds_toArray, List.set_cons_zero, List.set_cons_succ]
    refine hK.out _ _ ?_ (fun hHeld => ?_)
    · exact hHeld
    clear hK K
    refine wpAnyH_ready (rs := [7]) (by kernel_rfl) (by simp) ?_
    refine AllReadyH.cons (o := ?oi53) ?hi53 (fun K hK => ?_) AllReadyH.nil
    case hi53 => (simp only [List.getElem?_toArray, List.getElem?_cons_zero, List.getElem?_cons_succ]; rfl)
    go_simp
    refine (HM.out _ ?_ _).mono ?_
    · first | rfl | omega
    rintro e V ⟨rfl, rfl⟩
    go_simp
    refine hK.out _ _ ?_ (fun hHeld => ?_)
    · exact hHeld
    clear hK K
    refine wpAnyH_ready (rs := [8]) (by kernel_rfl) (by simp) ?_
    refine AllReadyH.cons (o := ?oi54) ?hi54 (fun K hK => ?_) AllReadyH.nil
    case hi54 => (simp only [List.getElem?_toArray, List.getElem?_cons_zero, List.getElem?_cons_succ]; rfl)
    go_simp
    refine (HW.out _).mono ?_
    rintro e V ⟨rfl, hbc⟩
    replace hr := hHeld.1.bl hbc
    replace hi := hHeld.2.1.bl hbc
    replace hb := below_bl rfl hHeld.2.2.2 hbc
    replace hq := hq.bl hbc
    replace hc2 := hc2.bl hbc
    clear hHeld
    go_simp
    refine hK.out _ _ ?_ (fun hHeld => ?_)
    · exact ⟨hr, hi, Or.inl hc2, hb⟩
    clear hK K
    refine wpAnyH_take (i := 9) (oi := ?oi55) (v := .tuple #[.agg c.cells, (.iface 89 (.int .i64 ((k : Int) + 1)))]) ?hi55 (by kernel_rfl) (by kernel_rfl) (by kernel_rfl) ?hQ55 ?hy55 (by assumption) ?rest55
    case hi55 => (simp only [List.getElem?_toArray, List.getElem?_cons_zero, List.getElem?_cons_succ]; rfl)
    case hQ55 => exact fun _ _ _ h => h
    case hy55 => exact Or.inl ⟨by rfl, by (intro w hSw; (try dsimp only at hSw); go_simp )⟩
    simp only [Act.put, List.setIfInBounds_toArray, List.set_cons_zero, List.set_cons_succ]
    refine wpAnyH_take (i := 10) (oi := ?oi56) (v := .agg c.cells) ?hi56 (by kernel_rfl) (by kernel_rfl) (by kernel_rfl) ?hQ56 ?hy56 (by assumption) ?rest56
    case hi56 => (simp only [List.getElem?_toArray, List.getElem?_cons_zero, List.getElem?_cons_succ]; rfl)
    case hQ56 => exact fun _ _ _ h => h
    case hy56 => exact Or.inl ⟨by rfl, by (intro w hSw; (try dsimp only at hSw); go_simp )⟩
    simp only [Act.put, List.setIfInBounds_toArray, List.set_cons_zero, List.set_cons_succ]
    refine wpAnyH_take (i := 11) (oi := ?oi57) (v := (.iface 89 (.int .i64 ((k : Int) + 1)))) ?hi57 (by kernel_rfl) (by kernel_rfl) (by kernel_rfl) ?hQ57 ?hy57 (by assumption) ?rest57
    case hi57 => (simp only [List.getElem?_toArray, List.getElem?_cons_zero, List.getElem?_cons_succ]; rfl)
    case hQ57 => exact fun _ _ _ h => h
    case hy57 => exact Or.inl ⟨by rfl, by (intro w hSw; (try dsimp only at hSw); go_simp )⟩
    simp only [Act.put, List.setIfInBounds_toArray, List.set_cons_zero, List.set_cons_succ]
    refine wpAnyH_ready (rs := [12]) (by kernel_rfl) (by simp) ?_
    refine AllReadyH.cons (o := ?oi58) ?hi58 (fun K hK => ?_) AllReadyH.nil
    case hi58 => (simp only [List.getElem?_toArray, List.getElem?_cons_zero, List.getElem?_cons_succ]; rfl)
    rw [if_pos (by rfl)]
    (with_reducible refine s_s (w.heap.size + 3) _ c hc2 ?_ ?_ ?_)
    · exact rfl
    · exact rfl
    intro W hnew ho
    replace hr := hr.only ho (by omega)
    replace hi := hi.only ho (by omega)
    replace hq := hq.only ho (by omega)
    replace hb := ho.bel _ _ (by omega) hb
    replace hc2 := hnew
    clear hHeld
    refine hK.out _ _ ?_ (fun hHeld => ?_)
    · exact ⟨hr, hi, Or.inr hc2, hb⟩
    clear hK K
    refine wpAnyH_take (i := 13) (oi := ?oi59) (v := (.iface 89 (.int .i64 ((k : Int) + 1)))) ?hi59 (by kernel_rfl) (by kernel_rfl) (by kernel_rfl) ?hQ59 ?hy59 (by assumption) ?rest59
    case hi59 => (simp only [List.getElem?_toArray, List.getElem?_cons_zero, List.getElem?_cons_succ]; rfl)
    case hQ59 => exact fun _ _ _ h => h
    case hy59 => exact Or.inl ⟨by rfl, by (intro w hSw; (try dsimp only at hSw); go_simp )⟩
    simp only [Act.put, List.setIfInBounds_toArray, List.set_cons_zero, List.set_cons_succ]
    refine wpAnyH_done (by kernel_rfl) ?_ _
    have qa : W.cell? ⟨w.heap.size + 1, 0, none⟩ = some (.int .i64 51) := hi.cell 0
    have qb : W.cell? ⟨w.heap.size + 1, 1, none⟩ = some (.int .i64 (rd : Nat)) := hi.cell 1
    have qc : W.cell? ⟨w.heap.size + 1, 2, none⟩ = some (.int .i64 (s1 : Nat)) := hi.cell 2
    go_wp2_with (first | ((with_reducible refine ld_h w.heap.size _ hr ?_ ?_); exact rfl) | ((with_reducible refine ld_c w.heap.size _ hr ?_ ?_); exact rfl) | ((with_reducible refine ld_s (w.heap.size + 3) _ hc2 ?_ ?_); exact rfl) | ((with_reducible refine ld_op (w.heap.size + 1) _ hi ?_ ?_); exact rfl) | ((with_reducible refine ld_rd (w.heap.size + 1) _ hi ?_ ?_); exact rfl) | ((with_reducible refine ld_rs1 (w.heap.size + 1) _ hi ?_ ?_); exact rfl) | ((with_reducible refine ld_csr (w.heap.size + 1) _ hi ?_ ?_); exact rfl) | ((with_reducible refine ld_x w.heap.size s1 _ h1 hr ?_ ?_); exact rfl) | (go_at_call 22; refine (HT.out _).mono ?_; rintro e W ⟨rfl, hbc⟩; replace hr := hr.bl hbc; replace hi := hi.bl hbc; replace hq := hq.bl hbc; replace hc2 := hc2.bl hbc; replace hb := below_bl rfl hb hbc) | ((with_reducible refine st_h (w.heap.size + 2) _ (trapH h 2 v) hq ?_ ?_ ?_); exact rfl; exact rfl; intro W hnew ho; replace hr := hr.only ho (by omega); replace hi := hi.only ho (by omega); replace hc2 := hc2.only ho (by omega); replace hq := hnew; replace hb := ho.bel _ _ (by omega) hb))
    refine bodyPost_ret (results_cell_row Tryd.results26 _ _ (w.heap.size + 2) _ _ _ _ rfl hq Tryd.underlying31 rfl size_hart) rfl ?_
    exact ⟨rfl, hb⟩
  case b52 =>
    go_simp
    refine (HM.out _ ?_ _).mono ?_
    · first | rfl | omega
    rintro e V ⟨rfl, rfl⟩
    go_simp
    refine hK.out _ _ ?_ (fun hHeld => ?_)
    · exact hHeld
    clear hK K
    refine wpAnyH_ready (rs := [0]) (by kernel_rfl) (by simp) ?_
    refine AllReadyH.cons (o := ?oi60) ?hi60 (fun K hK => ?_) AllReadyH.nil
    case hi60 => (simp only [List.getElem?_toArray, List.getElem?_cons_zero]; rfl)
    rw [if_pos (by rfl)]
    (with_reducible refine w_ld_s (w.heap.size + 3) h.c hc2 ?_ ?_)
    · exact rfl
    simp only [Act.put, List.setIfInBounds_toArray, List.set_cons_zero, List.set_cons_succ]
    refine hK.out _ _ ?_ (fun hHeld => ?_)
    · exact hHeld
    clear hK K
    refine wpAnyH_ready (rs := [8]) (by kernel_rfl) (by simp) ?_
    refine AllReadyH.cons (o := ?oi61) ?hi61 (fun K hK => ?_) AllReadyH.nil
    case hi61 => (simp only [List.getElem?_toArray, List.getElem?_cons_zero, List.getElem?_cons_succ]; rfl)
    go_simp
    refine (HW.out _).mono ?_
    rintro e V ⟨rfl, hbc⟩
    replace hr := hHeld.1.bl hbc
    replace hi := hHeld.2.1.bl hbc
    replace hb := below_bl rfl hHeld.2.2.2 hbc
    replace hq := hq.bl hbc
    replace hc2 := hc2.bl hbc
    clear hHeld
    go_simp
    refine hK.out _ _ ?_ (fun hHeld => ?_)
    · exact ⟨hr, hi, Or.inl hc2, hb⟩
    clear hK K
    refine wpAnyH_take (i := 9) (oi := ?oi62) (v := .tuple #[.agg c.cells, (.iface 89 (.int .i64 ((k : Int) + 1)))]) ?hi62 (by kernel_rfl) (by kernel_rfl) (by kernel_rfl) ?hQ62 ?hy62 (by assumption) ?rest62
    case hi62 => (simp only [List.getElem?_toArray, List.getElem?_cons_zero, List.getElem?_cons_succ]; rfl)
    case hQ62 => exact fun _ _ _ h => h
    case hy62 => exact Or.inl ⟨by rfl, by (intro w hSw; (try dsimp only at hSw); go_simp )⟩
    simp only [Act.put, List.setIfInBounds_toArray, List.set_cons_zero, List.set_cons_succ]
    refine wpAnyH_take (i := 10) (oi := ?oi63) (v := .agg c.cells) ?hi63 (by kernel_rfl) (by kernel_rfl) (by kernel_rfl) ?hQ63 ?hy63 (by assumption) ?rest63
    case hi63 => (simp only [List.getElem?_toArray, List.getElem?_cons_zero, List.getElem?_cons_succ]; rfl)
    case hQ63 => exact fun _ _ _ h => h
    case hy63 => exact Or.inl ⟨by rfl, by (intro w hSw; (try dsimp only at hSw); go_simp )⟩
    simp only [Act.put, List.setIfInBounds_toArray, List.set_cons_zero, List.set_cons_succ]
    refine wpAnyH_take (i := 11) (oi := ?oi64) (v := (.iface 89 (.int .i64 ((k : Int) + 1)))) ?hi64 (by kernel_rfl) (by kernel_rfl) (by kernel_rfl) ?hQ64 ?hy64 (by assumption) ?rest64
    case hi64 => (simp only [List.getElem?_toArray, List.getElem?_cons_zero, List.getElem?_cons_succ]; rfl)
    case hQ64 => exact fun _ _ _ h => h
    case hy64 => exact Or.inl ⟨by rfl, by (intro w hSw; (try dsimp only at hSw); go_simp )⟩
    simp only [Act.put, List.setIfInBounds_toArray, List.set_cons_zero, List.set_cons_succ]
    refine wpAnyH_ready (rs := [12]) (by kernel_rfl) (by simp) ?_
    refine AllReadyH.cons (o := ?oi65) ?hi65 (fun K hK => ?_) AllReadyH.nil
    case hi65 => (simp only [List.getElem?_toArray, List.getElem?_cons_zero, List.getElem?_cons_succ]; rfl)
    rw [if_pos (by rfl)]
    (with_reducible refine s_s (w.heap.size + 3) _ c hc2 ?_ ?_ ?_)
    · exact rfl
    · exact rfl
    intro W hnew ho
    replace hr := hr.only ho (by omega)
    replace hi := hi.only ho (by omega)
    replace hq := hq.only ho (by omega)
    replace hb := ho.bel _ _ (by omega) hb
    replace hc2 := hnew
    clear hHeld
    refine hK.out _ _ ?_ (fun hHeld => ?_)
    · exact ⟨hr, hi, Or.inr hc2, hb⟩
    clear hK K
    refine wpAnyH_take (i := 13) (oi := ?oi66) (v := (.iface 89 (.int .i64 ((k : Int) + 1)))) ?hi66 (by kernel_rfl) (by kernel_rfl) (by kernel_rfl) ?hQ66 ?hy66 (by assumption) ?rest66
    case hi66 => (simp only [List.getElem?_toArray, List.getElem?_cons_zero, List.getElem?_cons_succ]; rfl)
    case hQ66 => exact fun _ _ _ h => h
    case hy66 => exact Or.inl ⟨by rfl, by (intro w hSw; (try dsimp only at hSw); go_simp )⟩
    simp only [Act.put, List.setIfInBounds_toArray, List.set_cons_zero, List.set_cons_succ]
    refine wpAnyH_done (by kernel_rfl) ?_ _
    have qa : W.cell? ⟨w.heap.size + 1, 0, none⟩ = some (.int .i64 51) := hi.cell 0
    have qb : W.cell? ⟨w.heap.size + 1, 1, none⟩ = some (.int .i64 (rd : Nat)) := hi.cell 1
    have qc : W.cell? ⟨w.heap.size + 1, 2, none⟩ = some (.int .i64 (s1 : Nat)) := hi.cell 2
    go_wp2_with (first | ((with_reducible refine ld_h w.heap.size _ hr ?_ ?_); exact rfl) | ((with_reducible refine ld_c w.heap.size _ hr ?_ ?_); exact rfl) | ((with_reducible refine ld_s (w.heap.size + 3) _ hc2 ?_ ?_); exact rfl) | ((with_reducible refine ld_op (w.heap.size + 1) _ hi ?_ ?_); exact rfl) | ((with_reducible refine ld_rd (w.heap.size + 1) _ hi ?_ ?_); exact rfl) | ((with_reducible refine ld_rs1 (w.heap.size + 1) _ hi ?_ ?_); exact rfl) | ((with_reducible refine ld_csr (w.heap.size + 1) _ hi ?_ ?_); exact rfl) | ((with_reducible refine ld_x w.heap.size s1 _ h1 hr ?_ ?_); exact rfl) | (go_at_call 22; refine (HT.out _).mono ?_; rintro e W ⟨rfl, hbc⟩; replace hr := hr.bl hbc; replace hi := hi.bl hbc; replace hq := hq.bl hbc; replace hc2 := hc2.bl hbc; replace hb := below_bl rfl hb hbc) | ((with_reducible refine st_h (w.heap.size + 2) _ (trapH h 2 v) hq ?_ ?_ ?_); exact rfl; exact rfl; intro W hnew ho; replace hr := hr.only ho (by omega); replace hi := hi.only ho (by omega); replace hc2 := hc2.only ho (by omega); replace hq := hnew; replace hb := ho.bel _ _ (by omega) hb))
    refine bodyPost_ret (results_cell_row Tryd.results26 _ _ (w.heap.size + 2) _ _ _ _ rfl hq Tryd.underlying31 rfl size_hart) rfl ?_
    exact ⟨rfl, hb⟩

set_option maxHeartbeats 2000000 in
theorem control_51rC (h : H) (ok : h.Ok) (rd s1 s2 : Nat) (im cs : Int) (hrd : rd < 32) (h1 : s1 < 32) (v l : Nat) (hl : l < 4294967296) (h0 : rd ≠ 0) (old : Nat) (hold : old < 4294967296) (hR : readN h.c cs l = some old) (c : S8) (hc : c.Ok) (hW : writeN h.c cs (mixN 51 old (h.x s1)) = (c, 0)) (w : World) :
    Calls Tryd.prog 26 #[.agg h.cells, .agg (I6.cells ⟨51, (rd : Nat), (s1 : Nat), (s2 : Nat), im, cs⟩), .int .u32 v, .int .u32 l] w fun e w' => e = .returned (.agg (nextH (writeH (withC h c) rd old)).cells) ∧ Below w.heap.size w w' := by
  have b1 : (0 : Int) ≤ s1 := by omega
  have b2 : (s1 : Int) < 32 := by omega
  have t1 : ((rd : Int) != 0) = true := by simp; omega
  clear h0
  have HR := hide (fun w => cs_read_bl h.c ok.c cs l hl w)
  rw [hR] at HR
  simp only [readV] at HR
  clear hR
  have HM : Hid (∀ z : Int, z = (((h.x s1) : Nat) : Int) → ∀ w, Calls Tryd.prog 54 #[.int .i64 51, .int .u32 old, .int .u32 z] w fun e w' => e = .returned (.int .u32 ((mixN 51 old (h.x s1)) : Nat)) ∧ w' = w) := hide (fun z hz w => by rw [hz]; exact mixed_51 old (h.x s1) hold (ok.x s1) w)
  have HW := hide (fun w => cs_write_bl h.c ok.c cs (mixN 51 old (h.x s1)) (mixN_lt 51 hold (ok.x s1)) w)
  rw [hW] at HW
  simp only [errW] at HW
  clear hW
  generalize (mixN 51 old (h.x s1)) = M at HM HW
  have ok' : H.Ok (withC h c) := ⟨ok.pc, ok.x, hc⟩
  have HWr := hide (fun w => write_any (withC h c) rd hrd old w)
  have HN := hide (fun w => next_any _ (writeH_ok ok' rd hold) w)
  go_enter Tryd.func26, Tryd.ntmps26
  go_wp2_with (first | ((with_reducible refine bx_h w.heap.size h ?_ ?_ ?_); exact rfl; exact rfl; intro W hr hb hz) | ((with_reducible refine bx_i (w.heap.size + 1) ⟨51, (rd : Nat), (s1 : Nat), (s2 : Nat), im, cs⟩ ?_ ?_ ?_); exact hz.out; exact rfl; intro W hi hb' hz'; replace hr := hr.bl (hz.out ▸ hb'); replace hb := hb.trans (hb'.mono (by omega)); replace hz := hz') | ((with_reducible refine al_h (w.heap.size + 2) ?_ ?_); exact hz.out; intro W hq hb' hz'; replace hr := hr.bl (hz.out ▸ hb'); replace hi := hi.bl (hz.out ▸ hb'); replace hb := hb.trans (hb'.mono (by omega)); replace hz := hz'; have qa : W.cell? ⟨w.heap.size + 1, 0, none⟩ = some (.int .i64 51) := hi.cell 0; have qb : W.cell? ⟨w.heap.size + 1, 1, none⟩ = some (.int .i64 (rd : Nat)) := hi.cell 1; have qc : W.cell? ⟨w.heap.size + 1, 2, none⟩ = some (.int .i64 (s1 : Nat)) := hi.cell 2) | ((with_reducible refine al_c (w.heap.size + 3) ?_ ?_); exact hz.out; intro W hc2 hb' hz'; replace hr := hr.bl (hz.out ▸ hb'); replace hi := hi.bl (hz.out ▸ hb'); replace hq := hq.bl (hz.out ▸ hb'); replace hb := hb.trans (hb'.mono (by omega)); replace hz := hz'; have qa : W.cell? ⟨w.heap.size + 1, 0, none⟩ = some (.int .i64 51) := hi.cell 0; have qb : W.cell? ⟨w.heap.size + 1, 1, none⟩ = some (.int .i64 (rd : Nat)) := hi.cell 1; have qc : W.cell? ⟨w.heap.size + 1, 2, none⟩ = some (.int .i64 (s1 : Nat)) := hi.cell 2) | ((with_reducible refine st_s (w.heap.size + 3) _ h.c hc2 ?_ ?_ ?_); exact rfl; exact rfl; intro W hnew ho; replace hr := hr.only ho (by omega); replace hi := hi.only ho (by omega); replace hq := hq.only ho (by omega); replace hc2 := hnew; replace hb := ho.bel _ _ (by omega) hb; have qa : W.cell? ⟨w.heap.size + 1, 0, none⟩ = some (.int .i64 51) := hi.cell 0; have qb : W.cell? ⟨w.heap.size + 1, 1, none⟩ = some (.int .i64 (rd : Nat)) := hi.cell 1; have qc : W.cell? ⟨w.heap.size + 1, 2, none⟩ = some (.int .i64 (s1 : Nat)) := hi.cell 2) | (go_at_call 52; refine (HR.out _).mono ?_; rintro e W ⟨rfl, hbc⟩; replace hr := hr.bl hbc; replace hi := hi.bl hbc; replace hq := hq.bl hbc; replace hc2 := hc2.bl hbc; replace hb := below_bl rfl hb hbc; have qa : W.cell? ⟨w.heap.size + 1, 0, none⟩ = some (.int .i64 51) := hi.cell 0; have qb : W.cell? ⟨w.heap.size + 1, 1, none⟩ = some (.int .i64 (rd : Nat)) := hi.cell 1; have qc : W.cell? ⟨w.heap.size + 1, 2, none⟩ = some (.int .i64 (s1 : Nat)) := hi.cell 2) | ((with_reducible refine ld_h w.heap.size _ hr ?_ ?_); exact rfl) | ((with_reducible refine ld_c w.heap.size _ hr ?_ ?_); exact rfl) | ((with_reducible refine ld_s (w.heap.size + 3) _ hc2 ?_ ?_); exact rfl) | ((with_reducible refine ld_op (w.heap.size + 1) _ hi ?_ ?_); exact rfl) | ((with_reducible refine ld_rd (w.heap.size + 1) _ hi ?_ ?_); exact rfl) | ((with_reducible refine ld_rs1 (w.heap.size + 1) _ hi ?_ ?_); exact rfl) | ((with_reducible refine ld_csr (w.heap.size + 1) _ hi ?_ ?_); exact rfl) | ((with_reducible refine ld_x w.heap.size s1 _ h1 hr ?_ ?_); exact rfl))
  refine wp_region_held_drew (S := (fun V => RowAt V w.heap.size h.cells 31 ∧ RowAt V (w.heap.size + 1) (I6.cells ⟨51, (rd : Nat), (s1 : Nat), (s2 : Nat), im, cs⟩) 61 ∧ (RowAt V (w.heap.size + 3) h.c.cells 29 ∨ RowAt V (w.heap.size + 3) c.cells 29) ∧ Below w.heap.size w V)) (by kernel_rfl) ?_ (fun hHeld => ?_)
  · exact ⟨hr.dr, hi.dr, Or.inl hc2.dr, hb.drew⟩
  replace hq := hq.dr
  replace hc2 := hc2.dr
  refine wpAnyH_take (i := 1) (oi := ?oi67) (v := .pointer (some ⟨w.heap.size + 1, 5, none⟩)) ?hi67 (by kernel_rfl) (by kernel_rfl) (by kernel_rfl) ?hQ67 ?hy67 (by assumption) ?rest67
  case hi67 => (simp only [List.getElem?_toArray, List.getElem?_cons_zero, List.getElem?_cons_succ]; rfl)
  case hQ67 => exact fun _ _ _ h => h
  case hy67 => exact Or.inl ⟨by rfl, by (intro w hSw; (try dsimp only at hSw); go_simp )⟩
  simp only [Act.put, List.setIfInBounds_toArray, List.set_cons_zero, List.set_cons_succ]
  refine wpAnyH_take (i := 2) (oi := ?oi68) (v := .int .i64 cs) ?hi68 (by kernel_rfl) (by kernel_rfl) (by kernel_rfl) ?hQ68 ?hy68 (by assumption) ?rest68
  case hi68 => (simp only [List.getElem?_toArray, List.getElem?_cons_zero, List.getElem?_cons_succ]; rfl)
  case hQ68 => exact fun _ _ _ h => h
  case hy68 => exact y_int (w.heap.size + 1) 5 _ (fun V hV => (hV.2.1.cell 5).trans rfl) rfl
  simp only [Act.put, List.setIfInBounds_toArray, List.set_cons_zero, List.set_cons_succ]
  refine wpAnyH_take (i := 3) (oi := ?oi69) (v := .pointer (some ⟨w.heap.size + 1, 0, none⟩)) ?hi69 (by kernel_rfl) (by kernel_rfl) (by kernel_rfl) ?hQ69 ?hy69 (by assumption) ?rest69
  case hi69 => (simp only [List.getElem?_toArray, List.getElem?_cons_zero, List.getElem?_cons_succ]; rfl)
  case hQ69 => exact fun _ _ _ h => h
  case hy69 => exact Or.inl ⟨by rfl, by (intro w hSw; (try dsimp only at hSw); go_simp )⟩
  simp only [Act.put, List.setIfInBounds_toArray, List.set_cons_zero, List.set_cons_succ]
  refine wpAnyH_take (i := 4) (oi := ?oi70) (v := .int .i64 51) ?hi70 (by kernel_rfl) (by kernel_rfl) (by kernel_rfl) ?hQ70 ?hy70 (by assumption) ?rest70
  case hi70 => (simp only [List.getElem?_toArray, List.getElem?_cons_zero, List.getElem?_cons_succ]; rfl)
  case hQ70 => exact fun _ _ _ h => h
  case hy70 => exact y_int (w.heap.size + 1) 0 _ (fun V hV => (hV.2.1.cell 0).trans rfl) rfl
  simp only [Act.put, List.setIfInBounds_toArray, List.set_cons_zero, List.set_cons_succ]
  refine wpAnyH_take (i := 5) (oi := ?oi71) (v := .int .u32 (old : Nat)) ?hi71 (by kernel_rfl) (by kernel_rfl) (by kernel_rfl) ?hQ71 ?hy71 (by assumption) ?rest71
  case hi71 => (simp only [List.getElem?_toArray, List.getElem?_cons_zero, List.getElem?_cons_succ]; rfl)
  case hQ71 => exact fun _ _ _ h => h
  case hy71 => exact Or.inl ⟨by rfl, by (intro w hSw; (try dsimp only at hSw); go_simp )⟩
  simp only [Act.put, List.setIfInBounds_toArray, List.set_cons_zero, List.set_cons_succ]
  refine wpAnyH_take (i := 6) (oi := ?oi72) (v := .int .u32 ((h.x s1) : Nat)) ?hi72 (by kernel_rfl) (by kernel_rfl) (by kernel_rfl) ?hQ72 ?hy72 (by assumption) ?rest72
  case hi72 => (simp only [List.getElem?_toArray, List.getElem?_cons_zero, List.getElem?_cons_succ]; rfl)
  case hQ72 => exact fun _ _ _ h => h
  case hy72 => exact Or.inl ⟨by rfl, by (intro w hSw; (try dsimp only at hSw); go_simp <;> omega)⟩
  simp only [Act.put, List.setIfInBounds_toArray, List.set_cons_zero, List.set_cons_succ]
  refine wpAnyH_ready (rs := [0, 7]) (by kernel_rfl) (by simp) ?_
  refine AllReadyH.cons (o := ?oi73) ?hi73 (fun K hK => ?b73) (AllReadyH.cons (o := ?oi74) ?hi74 (fun K hK => ?b74) AllReadyH.nil)
  case hi73 => (simp only [List.getElem?_toArray, List.getElem?_cons_zero]; rfl)
  case hi74 => (simp only [List.getElem?_toArray, List.getElem?_cons_zero, List.getElem?_cons_succ]; rfl)
  case b73 =>
    rw [if_pos (by rfl)]
    (with_reducible refine w_ld_s (w.heap.size + 3) h.c hc2 ?_ ?_)
    · exact rfl
    simp only [Act.put, List.setIfInBounds_toArray, List.set_cons_zero, List.set_cons_succ]
    refine hK.out _ _ ?_ (fun hHeld => ?_)
    · exact hHeld
    clear hK K
    refine wpAnyH_ready (rs := [7]) (by kernel_rfl) (by simp) ?_
    refine AllReadyH.cons (o := ?oi75) ?hi75 (fun K hK => ?_) AllReadyH.nil
    case hi75 => (simp only [List.getElem?_toArray, List.getElem?_cons_zero, List.getElem?_cons_succ]; rfl)
    go_simp
    refine (HM.out _ ?_ _).mono ?_
    · first | rfl | omega
    rintro e V ⟨rfl, rfl⟩
    go_simp
    refine hK.out _ _ ?_ (fun hHeld => ?_)
    · exact hHeld
    clear hK K
    refine wpAnyH_ready (rs := [8]) (by kernel_rfl) (by simp) ?_
    refine AllReadyH.cons (o := ?oi76) ?hi76 (fun K hK => ?_) AllReadyH.nil
    case hi76 => (simp only [List.getElem?_toArray, List.getElem?_cons_zero, List.getElem?_cons_succ]; rfl)
    go_simp
    refine (HW.out _).mono ?_
    rintro e V ⟨rfl, hbc⟩
    replace hr := hHeld.1.bl hbc
    replace hi := hHeld.2.1.bl hbc
    replace hb := below_bl rfl hHeld.2.2.2 hbc
    replace hq := hq.bl hbc
    replace hc2 := hc2.bl hbc
    clear hHeld
    go_simp
    refine hK.out _ _ ?_ (fun hHeld => ?_)
    · exact ⟨hr, hi, Or.inl hc2, hb⟩
    clear hK K
    refine wpAnyH_take (i := 9) (oi := ?oi77) (v := .tuple #[.agg c.cells, .nilIface]) ?hi77 (by kernel_rfl) (by kernel_rfl) (by kernel_rfl) ?hQ77 ?hy77 (by assumption) ?rest77
    case hi77 => (simp only [List.getElem?_toArray, List.getElem?_cons_zero, List.getElem?_cons_succ]; rfl)
    case hQ77 => exact fun _ _ _ h => h
    case hy77 => exact Or.inl ⟨by rfl, by (intro w hSw; (try dsimp only at hSw); go_simp )⟩
    simp only [Act.put, List.setIfInBounds_toArray, List.set_cons_zero, List.set_cons_succ]
    refine wpAnyH_take (i := 10) (oi := ?oi78) (v := .agg c.cells) ?hi78 (by kernel_rfl) (by kernel_rfl) (by kernel_rfl) ?hQ78 ?hy78 (by assumption) ?rest78
    case hi78 => (simp only [List.getElem?_toArray, List.getElem?_cons_zero, List.getElem?_cons_succ]; rfl)
    case hQ78 => exact fun _ _ _ h => h
    case hy78 => exact Or.inl ⟨by rfl, by (intro w hSw; (try dsimp only at hSw); go_simp )⟩
    simp only [Act.put, List.setIfInBounds_toArray, List.set_cons_zero, List.set_cons_succ]
    refine wpAnyH_take (i := 11) (oi := ?oi79) (v := .nilIface) ?hi79 (by kernel_rfl) (by kernel_rfl) (by kernel_rfl) ?hQ79 ?hy79 (by assumption) ?rest79
    case hi79 => (simp only [List.getElem?_toArray, List.getElem?_cons_zero, List.getElem?_cons_succ]; rfl)
    case hQ79 => exact fun _ _ _ h => h
    case hy79 => exact Or.inl ⟨by rfl, by (intro w hSw; (try dsimp only at hSw); go_simp )⟩
    simp only [Act.put, List.setIfInBounds_toArray, List.set_cons_zero, List.set_cons_succ]
    refine wpAnyH_ready (rs := [12]) (by kernel_rfl) (by simp) ?_
    refine AllReadyH.cons (o := ?oi80) ?hi80 (fun K hK => ?_) AllReadyH.nil
    case hi80 => (simp only [List.getElem?_toArray, List.getElem?_cons_zero, List.getElem?_cons_succ]; rfl)
    rw [if_pos (by rfl)]
    (with_reducible refine s_s (w.heap.size + 3) _ c hc2 ?_ ?_ ?_)
    · exact rfl
    · exact rfl
    intro W hnew ho
    replace hr := hr.only ho (by omega)
    replace hi := hi.only ho (by omega)
    replace hq := hq.only ho (by omega)
    replace hb := ho.bel _ _ (by omega) hb
    replace hc2 := hnew
    clear hHeld
    refine hK.out _ _ ?_ (fun hHeld => ?_)
    · exact ⟨hr, hi, Or.inr hc2, hb⟩
    clear hK K
    refine wpAnyH_take (i := 13) (oi := ?oi81) (v := .nilIface) ?hi81 (by kernel_rfl) (by kernel_rfl) (by kernel_rfl) ?hQ81 ?hy81 (by assumption) ?rest81
    case hi81 => (simp only [List.getElem?_toArray, List.getElem?_cons_zero, List.getElem?_cons_succ]; rfl)
    case hQ81 => exact fun _ _ _ h => h
    case hy81 => exact Or.inl ⟨by rfl, by (intro w hSw; (try dsimp only at hSw); go_simp )⟩
    simp only [Act.put, List.setIfInBounds_toArray, List.set_cons_zero, List.set_cons_succ]
    refine wpAnyH_done (by kernel_rfl) ?_ _
    have qa : W.cell? ⟨w.heap.size + 1, 0, none⟩ = some (.int .i64 51) := hi.cell 0
    have qb : W.cell? ⟨w.heap.size + 1, 1, none⟩ = some (.int .i64 (rd : Nat)) := hi.cell 1
    have qc : W.cell? ⟨w.heap.size + 1, 2, none⟩ = some (.int .i64 (s1 : Nat)) := hi.cell 2
    go_wp2_with (first | ((with_reducible refine ld_h w.heap.size _ hr ?_ ?_); exact rfl) | ((with_reducible refine ld_c w.heap.size _ hr ?_ ?_); exact rfl) | ((with_reducible refine ld_s (w.heap.size + 3) _ hc2 ?_ ?_); exact rfl) | ((with_reducible refine ld_op (w.heap.size + 1) _ hi ?_ ?_); exact rfl) | ((with_reducible refine ld_rd (w.heap.size + 1) _ hi ?_ ?_); exact rfl) | ((with_reducible refine ld_rs1 (w.heap.size + 1) _ hi ?_ ?_); exact rfl) | ((with_reducible refine ld_csr (w.heap.size + 1) _ hi ?_ ?_); exact rfl) | ((with_reducible refine ld_x w.heap.size s1 _ h1 hr ?_ ?_); exact rfl) | ((with_reducible refine st_c w.heap.size _ c hr ?_ ?_ ?_); exact rfl; exact rfl; intro W hnew ho; replace hi := hi.only ho (by omega); replace hq := hq.only ho (by omega); replace hc2 := hc2.only ho (by omega); replace hr := hnew; replace hb := ho.bel _ _ (by omega) hb) | (go_at_call 46; refine (HWr.out _).mono ?_; rintro e W ⟨rfl, hbc⟩; replace hr := hr.bl hbc; replace hi := hi.bl hbc; replace hq := hq.bl hbc; replace hc2 := hc2.bl hbc; replace hb := below_bl rfl hb hbc) | (go_at_call 45; refine (HN.out _).mono ?_; rintro e W ⟨rfl, hbc⟩; replace hr := hr.bl hbc; replace hi := hi.bl hbc; replace hq := hq.bl hbc; replace hc2 := hc2.bl hbc; replace hb := below_bl rfl hb hbc) | ((with_reducible refine st_h (w.heap.size + 2) _ (nextH (writeH (withC h c) rd old)) hq ?_ ?_ ?_); exact rfl; exact rfl; intro W hnew ho; replace hr := hr.only ho (by omega); replace hi := hi.only ho (by omega); replace hc2 := hc2.only ho (by omega); replace hq := hnew; replace hb := ho.bel _ _ (by omega) hb))
    refine bodyPost_ret (results_cell_row Tryd.results26 _ _ (w.heap.size + 2) _ _ _ _ rfl hq Tryd.underlying31 rfl size_hart) rfl ?_
    exact ⟨rfl, hb⟩
  case b74 =>
    go_simp
    refine (HM.out _ ?_ _).mono ?_
    · first | rfl | omega
    rintro e V ⟨rfl, rfl⟩
    go_simp
    refine hK.out _ _ ?_ (fun hHeld => ?_)
    · exact hHeld
    clear hK K
    refine wpAnyH_ready (rs := [0]) (by kernel_rfl) (by simp) ?_
    refine AllReadyH.cons (o := ?oi82) ?hi82 (fun K hK => ?_) AllReadyH.nil
    case hi82 => (simp only [List.getElem?_toArray, List.getElem?_cons_zero]; rfl)
    rw [if_pos (by rfl)]
    (with_reducible refine w_ld_s (w.heap.size + 3) h.c hc2 ?_ ?_)
    · exact rfl
    simp only [Act.put, List.setIfInBounds_toArray, List.set_cons_zero, List.set_cons_succ]
    refine hK.out _ _ ?_ (fun hHeld => ?_)
    · exact hHeld
    clear hK K
    refine wpAnyH_ready (rs := [8]) (by kernel_rfl) (by simp) ?_
    refine AllReadyH.cons (o := ?oi83) ?hi83 (fun K hK => ?_) AllReadyH.nil
    case hi83 => (simp only [List.getElem?_toArray, List.getElem?_cons_zero, List.getElem?_cons_succ]; rfl)
    go_simp
    refine (HW.out _).mono ?_
    rintro e V ⟨rfl, hbc⟩
    replace hr := hHeld.1.bl hbc
    replace hi := hHeld.2.1.bl hbc
    replace hb := below_bl rfl hHeld.2.2.2 hbc
    replace hq := hq.bl hbc
    replace hc2 := hc2.bl hbc
    clear hHeld
    go_simp
    refine hK.out _ _ ?_ (fun hHeld => ?_)
    · exact ⟨hr, hi, Or.inl hc2, hb⟩
    clear hK K
    refine wpAnyH_take (i := 9) (oi := ?oi84) (v := .tuple #[.agg c.cells, .nilIface]) ?hi84 (by kernel_rfl) (by kernel_rfl) (by kernel_rfl) ?hQ84 ?hy84 (by assumption) ?rest84
    case hi84 => (simp only [List.getElem?_toArray, List.getElem?_cons_zero, List.getElem?_cons_succ]; rfl)
    case hQ84 => exact fun _ _ _ h => h
    case hy84 => exact Or.inl ⟨by rfl, by (intro w hSw; (try dsimp only at hSw); go_simp )⟩
    simp only [Act.put, List.setIfInBounds_toArray, List.set_cons_zero, List.set_cons_succ]
    refine wpAnyH_take (i := 10) (oi := ?oi85) (v := .agg c.cells) ?hi85 (by kernel_rfl) (by kernel_rfl) (by kernel_rfl) ?hQ85 ?hy85 (by assumption) ?rest85
    case hi85 => (simp only [List.getElem?_toArray, List.getElem?_cons_zero, List.getElem?_cons_succ]; rfl)
    case hQ85 => exact fun _ _ _ h => h
    case hy85 => exact Or.inl ⟨by rfl, by (intro w hSw; (try dsimp only at hSw); go_simp )⟩
    simp only [Act.put, List.setIfInBounds_toArray, List.set_cons_zero, List.set_cons_succ]
    refine wpAnyH_take (i := 11) (oi := ?oi86) (v := .nilIface) ?hi86 (by kernel_rfl) (by kernel_rfl) (by kernel_rfl) ?hQ86 ?hy86 (by assumption) ?rest86
    case hi86 => (simp only [List.getElem?_toArray, List.getElem?_cons_zero, List.getElem?_cons_succ]; rfl)
    case hQ86 => exact fun _ _ _ h => h
    case hy86 => exact Or.inl ⟨by rfl, by (intro w hSw; (try dsimp only at hSw); go_simp )⟩
    simp only [Act.put, List.setIfInBounds_toArray, List.set_cons_zero, List.set_cons_succ]
    refine wpAnyH_ready (rs := [12]) (by kernel_rfl) (by simp) ?_
    refine AllReadyH.cons (o := ?oi87) ?hi87 (fun K hK => ?_) AllReadyH.nil
    case hi87 => (simp only [List.getElem?_toArray, List.getElem?_cons_zero, List.getElem?_cons_succ]; rfl)
    rw [if_pos (by rfl)]
    (with_reducible refine s_s (w.heap.size + 3) _ c hc2 ?_ ?_ ?_)
    · exact rfl
    · exact rfl
    intro W hnew ho
    replace hr := hr.only ho (by omega)
    replace hi := hi.only ho (by omega)
    replace hq := hq.only ho (by omega)
    replace hb := ho.bel _ _ (by omega) hb
    replace hc2 := hnew
    clear hHeld
    refine hK.out _ _ ?_ (fun hHeld => ?_)
    · exact ⟨hr, hi, Or.inr hc2, hb⟩
    clear hK K
    refine wpAnyH_take (i := 13) (oi := ?oi88) (v := .nilIface) ?hi88 (by kernel_rfl) (by kernel_rfl) (by kernel_rfl) ?hQ88 ?hy88 (by assumption) ?rest88
    case hi88 => (simp only [List.getElem?_toArray, List.getElem?_cons_zero, List.getElem?_cons_succ]; rfl)
    case hQ88 => exact fun _ _ _ h => h
    case hy88 => exact Or.inl ⟨by rfl, by (intro w hSw; (try dsimp only at hSw); go_simp )⟩
    simp only [Act.put, List.setIfInBounds_toArray, List.set_cons_zero, List.set_cons_succ]
    refine wpAnyH_done (by kernel_rfl) ?_ _
    have qa : W.cell? ⟨w.heap.size + 1, 0, none⟩ = some (.int .i64 51) := hi.cell 0
    have qb : W.cell? ⟨w.heap.size + 1, 1, none⟩ = some (.int .i64 (rd : Nat)) := hi.cell 1
    have qc : W.cell? ⟨w.heap.size + 1, 2, none⟩ = some (.int .i64 (s1 : Nat)) := hi.cell 2
    go_wp2_with (first | ((with_reducible refine ld_h w.heap.size _ hr ?_ ?_); exact rfl) | ((with_reducible refine ld_c w.heap.size _ hr ?_ ?_); exact rfl) | ((with_reducible refine ld_s (w.heap.size + 3) _ hc2 ?_ ?_); exact rfl) | ((with_reducible refine ld_op (w.heap.size + 1) _ hi ?_ ?_); exact rfl) | ((with_reducible refine ld_rd (w.heap.size + 1) _ hi ?_ ?_); exact rfl) | ((with_reducible refine ld_rs1 (w.heap.size + 1) _ hi ?_ ?_); exact rfl) | ((with_reducible refine ld_csr (w.heap.size + 1) _ hi ?_ ?_); exact rfl) | ((with_reducible refine ld_x w.heap.size s1 _ h1 hr ?_ ?_); exact rfl) | ((with_reducible refine st_c w.heap.size _ c hr ?_ ?_ ?_); exact rfl; exact rfl; intro W hnew ho; replace hi := hi.only ho (by omega); replace hq := hq.only ho (by omega); replace hc2 := hc2.only ho (by omega); replace hr := hnew; replace hb := ho.bel _ _ (by omega) hb) | (go_at_call 46; refine (HWr.out _).mono ?_; rintro e W ⟨rfl, hbc⟩; replace hr := hr.bl hbc; replace hi := hi.bl hbc; replace hq := hq.bl hbc; replace hc2 := hc2.bl hbc; replace hb := below_bl rfl hb hbc) | (go_at_call 45; refine (HN.out _).mono ?_; rintro e W ⟨rfl, hbc⟩; replace hr := hr.bl hbc; replace hi := hi.bl hbc; replace hq := hq.bl hbc; replace hc2 := hc2.bl hbc; replace hb := below_bl rfl hb hbc) | ((with_reducible refine st_h (w.heap.size + 2) _ (nextH (writeH (withC h c) rd old)) hq ?_ ?_ ?_); exact rfl; exact rfl; intro W hnew ho; replace hr := hr.only ho (by omega); replace hi := hi.only ho (by omega); replace hc2 := hc2.only ho (by omega); replace hq := hnew; replace hb := ho.bel _ _ (by omega) hb))
    refine bodyPost_ret (results_cell_row Tryd.results26 _ _ (w.heap.size + 2) _ _ _ _ rfl hq Tryd.underlying31 rfl size_hart) rfl ?_
    exact ⟨rfl, hb⟩

end Go.Proofs.YtelakpogochifaaDoor
