/-
  What hart.control answers.
-/
import Derived.Test.YtelakpogochifaaDoorHaCtlA
namespace Go.Proofs.YtelakpogochifaaDoor
open Go.RowKit
set_option linter.unusedVariables false

set_option maxHeartbeats 2000000 in
theorem control_52rA (h : H) (ok : h.Ok) (rd s1 s2 : Nat) (im cs : Int) (hrd : rd < 32) (h1 : s1 < 32) (v l : Nat) (hl : l < 4294967296) (hR : readN h.c cs l = none) (w : World) :
    Calls Tryd.prog 26 #[.agg h.cells, .agg (I6.cells ⟨52, (rd : Nat), (s1 : Nat), (s2 : Nat), im, cs⟩), .int .u32 v, .int .u32 l] w fun e w' => e = .returned (.agg (trapH h 2 v).cells) ∧ Below w.heap.size w w' := by
  have b1 : (0 : Int) ≤ s1 := by omega
  have b2 : (s1 : Int) < 32 := by omega
  have HR := hide (fun w => cs_read_bl h.c ok.c cs l hl w)
  rw [hR] at HR
  simp only [readV] at HR
  clear hR
  have HT := hide (fun w => trap_any h ok 2 v (by decide) w)
  rw [show (((2 : Nat) : Int)) = 2 from rfl] at HT
  go_enter Tryd.func26, Tryd.ntmps26
  go_wp2_with (first | ((with_reducible refine bx_h w.heap.size h ?_ ?_ ?_); exact rfl; exact rfl; intro W hr hb hz) | ((with_reducible refine bx_i (w.heap.size + 1) ⟨52, (rd : Nat), (s1 : Nat), (s2 : Nat), im, cs⟩ ?_ ?_ ?_); exact hz.out; exact rfl; intro W hi hb' hz'; replace hr := hr.bl (hz.out ▸ hb'); replace hb := hb.trans (hb'.mono (by omega)); replace hz := hz') | ((with_reducible refine al_h (w.heap.size + 2) ?_ ?_); exact hz.out; intro W hq hb' hz'; replace hr := hr.bl (hz.out ▸ hb'); replace hi := hi.bl (hz.out ▸ hb'); replace hb := hb.trans (hb'.mono (by omega)); replace hz := hz'; have qa : W.cell? ⟨w.heap.size + 1, 0, none⟩ = some (.int .i64 52) := hi.cell 0; have qb : W.cell? ⟨w.heap.size + 1, 1, none⟩ = some (.int .i64 (rd : Nat)) := hi.cell 1; have qc : W.cell? ⟨w.heap.size + 1, 2, none⟩ = some (.int .i64 (s1 : Nat)) := hi.cell 2) | ((with_reducible refine al_c (w.heap.size + 3) ?_ ?_); exact hz.out; intro W hc2 hb' hz'; replace hr := hr.bl (hz.out ▸ hb'); replace hi := hi.bl (hz.out ▸ hb'); replace hq := hq.bl (hz.out ▸ hb'); replace hb := hb.trans (hb'.mono (by omega)); replace hz := hz'; have qa : W.cell? ⟨w.heap.size + 1, 0, none⟩ = some (.int .i64 52) := hi.cell 0; have qb : W.cell? ⟨w.heap.size + 1, 1, none⟩ = some (.int .i64 (rd : Nat)) := hi.cell 1; have qc : W.cell? ⟨w.heap.size + 1, 2, none⟩ = some (.int .i64 (s1 : Nat)) := hi.cell 2) | ((with_reducible refine st_s (w.heap.size + 3) _ h.c hc2 ?_ ?_ ?_); exact rfl; exact rfl; intro W hnew ho; replace hr := hr.only ho (by omega); replace hi := hi.only ho (by omega); replace hq := hq.only ho (by omega); replace hc2 := hnew; replace hb := ho.bel _ _ (by omega) hb; have qa : W.cell? ⟨w.heap.size + 1, 0, none⟩ = some (.int .i64 52) := hi.cell 0; have qb : W.cell? ⟨w.heap.size + 1, 1, none⟩ = some (.int .i64 (rd : Nat)) := hi.cell 1; have qc : W.cell? ⟨w.heap.size + 1, 2, none⟩ = some (.int .i64 (s1 : Nat)) := hi.cell 2) | (go_at_call 52; refine (HR.out _).mono ?_; rintro e W ⟨rfl, hbc⟩; replace hr := hr.bl hbc; replace hi := hi.bl hbc; replace hq := hq.bl hbc; replace hc2 := hc2.bl hbc; replace hb := below_bl rfl hb hbc; have qa : W.cell? ⟨w.heap.size + 1, 0, none⟩ = some (.int .i64 52) := hi.cell 0; have qb : W.cell? ⟨w.heap.size + 1, 1, none⟩ = some (.int .i64 (rd : Nat)) := hi.cell 1; have qc : W.cell? ⟨w.heap.size + 1, 2, none⟩ = some (.int .i64 (s1 : Nat)) := hi.cell 2) | ((with_reducible refine ld_h w.heap.size _ hr ?_ ?_); exact rfl) | ((with_reducible refine ld_c w.heap.size _ hr ?_ ?_); exact rfl) | ((with_reducible refine ld_s (w.heap.size + 3) _ hc2 ?_ ?_); exact rfl) | ((with_reducible refine ld_op (w.heap.size + 1) _ hi ?_ ?_); exact rfl) | ((with_reducible refine ld_rd (w.heap.size + 1) _ hi ?_ ?_); exact rfl) | ((with_reducible refine ld_rs1 (w.heap.size + 1) _ hi ?_ ?_); exact rfl) | ((with_reducible refine ld_csr (w.heap.size + 1) _ hi ?_ ?_); exact rfl) | ((with_reducible refine ld_x w.heap.size s1 _ h1 hr ?_ ?_); exact rfl) | (go_at_call 22; refine (HT.out _).mono ?_; rintro e W ⟨rfl, hbc⟩; replace hr := hr.bl hbc; replace hi := hi.bl hbc; replace hq := hq.bl hbc; replace hc2 := hc2.bl hbc; replace hb := below_bl rfl hb hbc) | ((with_reducible refine st_h (w.heap.size + 2) _ (trapH h 2 v) hq ?_ ?_ ?_); exact rfl; exact rfl; intro W hnew ho; replace hr := hr.only ho (by omega); replace hi := hi.only ho (by omega); replace hc2 := hc2.only ho (by omega); replace hq := hnew; replace hb := ho.bel _ _ (by omega) hb))
  refine bodyPost_ret (results_cell_row Tryd.results26 _ _ (w.heap.size + 2) _ _ _ _ rfl hq Tryd.underlying31 rfl size_hart) rfl ?_
  exact ⟨rfl, hb⟩

set_option maxHeartbeats 2000000 in
theorem control_52rB (h : H) (ok : h.Ok) (rd s1 s2 : Nat) (im cs : Int) (hrd : rd < 32) (h1 : s1 < 32) (v l : Nat) (hl : l < 4294967296) (h0 : s1 ≠ 0) (old : Nat) (hold : old < 4294967296) (hR : readN h.c cs l = some old) (c : S8) (k : Nat) (hW : writeN h.c cs (mixN 52 old (h.x s1)) = (c, k + 1)) (w : World) :
    Calls Tryd.prog 26 #[.agg h.cells, .agg (I6.cells ⟨52, (rd : Nat), (s1 : Nat), (s2 : Nat), im, cs⟩), .int .u32 v, .int .u32 l] w fun e w' => e = .returned (.agg (trapH h 2 v).cells) ∧ Below w.heap.size w w' := by
  have b1 : (0 : Int) ≤ s1 := by omega
  have b2 : (s1 : Int) < 32 := by omega
  have t2 : ((s1 : Int) != 0) = true := by simp; omega
  clear h0
  have HR := hide (fun w => cs_read_bl h.c ok.c cs l hl w)
  rw [hR] at HR
  simp only [readV] at HR
  clear hR
  have HM : Hid (∀ z : Int, z = (((h.x s1) : Nat) : Int) → ∀ w, Calls Tryd.prog 54 #[.int .i64 52, .int .u32 old, .int .u32 z] w fun e w' => e = .returned (.int .u32 ((mixN 52 old (h.x s1)) : Nat)) ∧ w' = w) := hide (fun z hz w => by rw [hz]; exact mixed_52 old (h.x s1) hold (ok.x s1) w)
  have HW := hide (fun w => cs_write_bl h.c ok.c cs (mixN 52 old (h.x s1)) (mixN_lt 52 hold (ok.x s1)) w)
  rw [hW] at HW
  simp only [errW] at HW
  clear hW
  generalize (mixN 52 old (h.x s1)) = M at HM HW
  have HT := hide (fun w => trap_any h ok 2 v (by decide) w)
  rw [show (((2 : Nat) : Int)) = 2 from rfl] at HT
  go_enter Tryd.func26, Tryd.ntmps26
  go_wp2_with (first | ((with_reducible refine bx_h w.heap.size h ?_ ?_ ?_); exact rfl; exact rfl; intro W hr hb hz) | ((with_reducible refine bx_i (w.heap.size + 1) ⟨52, (rd : Nat), (s1 : Nat), (s2 : Nat), im, cs⟩ ?_ ?_ ?_); exact hz.out; exact rfl; intro W hi hb' hz'; replace hr := hr.bl (hz.out ▸ hb'); replace hb := hb.trans (hb'.mono (by omega)); replace hz := hz') | ((with_reducible refine al_h (w.heap.size + 2) ?_ ?_); exact hz.out; intro W hq hb' hz'; replace hr := hr.bl (hz.out ▸ hb'); replace hi := hi.bl (hz.out ▸ hb'); replace hb := hb.trans (hb'.mono (by omega)); replace hz := hz'; have qa : W.cell? ⟨w.heap.size + 1, 0, none⟩ = some (.int .i64 52) := hi.cell 0; have qb : W.cell? ⟨w.heap.size + 1, 1, none⟩ = some (.int .i64 (rd : Nat)) := hi.cell 1; have qc : W.cell? ⟨w.heap.size + 1, 2, none⟩ = some (.int .i64 (s1 : Nat)) := hi.cell 2) | ((with_reducible refine al_c (w.heap.size + 3) ?_ ?_); exact hz.out; intro W hc2 hb' hz'; replace hr := hr.bl (hz.out ▸ hb'); replace hi := hi.bl (hz.out ▸ hb'); replace hq := hq.bl (hz.out ▸ hb'); replace hb := hb.trans (hb'.mono (by omega)); replace hz := hz'; have qa : W.cell? ⟨w.heap.size + 1, 0, none⟩ = some (.int .i64 52) := hi.cell 0; have qb : W.cell? ⟨w.heap.size + 1, 1, none⟩ = some (.int .i64 (rd : Nat)) := hi.cell 1; have qc : W.cell? ⟨w.heap.size + 1, 2, none⟩ = some (.int .i64 (s1 : Nat)) := hi.cell 2) | ((with_reducible refine st_s (w.heap.size + 3) _ h.c hc2 ?_ ?_ ?_); exact rfl; exact rfl; intro W hnew ho; replace hr := hr.only ho (by omega); replace hi := hi.only ho (by omega); replace hq := hq.only ho (by omega); replace hc2 := hnew; replace hb := ho.bel _ _ (by omega) hb; have qa : W.cell? ⟨w.heap.size + 1, 0, none⟩ = some (.int .i64 52) := hi.cell 0; have qb : W.cell? ⟨w.heap.size + 1, 1, none⟩ = some (.int .i64 (rd : Nat)) := hi.cell 1; have qc : W.cell? ⟨w.heap.size + 1, 2, none⟩ = some (.int .i64 (s1 : Nat)) := hi.cell 2) | (go_at_call 52; refine (HR.out _).mono ?_; rintro e W ⟨rfl, hbc⟩; replace hr := hr.bl hbc; replace hi := hi.bl hbc; replace hq := hq.bl hbc; replace hc2 := hc2.bl hbc; replace hb := below_bl rfl hb hbc; have qa : W.cell? ⟨w.heap.size + 1, 0, none⟩ = some (.int .i64 52) := hi.cell 0; have qb : W.cell? ⟨w.heap.size + 1, 1, none⟩ = some (.int .i64 (rd : Nat)) := hi.cell 1; have qc : W.cell? ⟨w.heap.size + 1, 2, none⟩ = some (.int .i64 (s1 : Nat)) := hi.cell 2) | ((with_reducible refine ld_h w.heap.size _ hr ?_ ?_); exact rfl) | ((with_reducible refine ld_c w.heap.size _ hr ?_ ?_); exact rfl) | ((with_reducible refine ld_s (w.heap.size + 3) _ hc2 ?_ ?_); exact rfl) | ((with_reducible refine ld_op (w.heap.size + 1) _ hi ?_ ?_); exact rfl) | ((with_reducible refine ld_rd (w.heap.size + 1) _ hi ?_ ?_); exact rfl) | ((with_reducible refine ld_rs1 (w.heap.size + 1) _ hi ?_ ?_); exact rfl) | ((with_reducible refine ld_csr (w.heap.size + 1) _ hi ?_ ?_); exact rfl) | ((with_reducible refine ld_x w.heap.size s1 _ h1 hr ?_ ?_); exact rfl))
  refine wp_region_held_drew (S := (fun V => RowAt V w.heap.size h.cells 31 ∧ RowAt V (w.heap.size + 1) (I6.cells ⟨52, (rd : Nat), (s1 : Nat), (s2 : Nat), im, cs⟩) 61 ∧ (RowAt V (w.heap.size + 3) h.c.cells 29 ∨ RowAt V (w.heap.size + 3) c.cells 29) ∧ Below w.heap.size w V)) (by kernel_rfl) ?_ (fun hHeld => ?_)
  · exact ⟨hr.dr, hi.dr, Or.inl hc2.dr, hb.drew⟩
  replace hq := hq.dr
  replace hc2 := hc2.dr
  refine wpAnyH_take (i := 1) (oi := ?oi89) (v := .pointer (some ⟨w.heap.size + 1, 5, none⟩)) ?hi89 (by kernel_rfl) (by kernel_rfl) (by kernel_rfl) ?hQ89 ?hy89 (by assumption) ?rest89
  case hi89 => (simp only [List.getElem?_toArray, List.getElem?_cons_zero, List.getElem?_cons_succ]; rfl)
  case hQ89 => exact fun _ _ _ h => h
  case hy89 => exact Or.inl ⟨by rfl, by (intro w hSw; (try dsimp only at hSw); go_simp )⟩
  simp only [Act.put, List.setIfInBounds_toArray, List.set_cons_zero, List.set_cons_succ]
  refine wpAnyH_take (i := 2) (oi := ?oi90) (v := .int .i64 cs) ?hi90 (by kernel_rfl) (by kernel_rfl) (by kernel_rfl) ?hQ90 ?hy90 (by assumption) ?rest90
  case hi90 => (simp only [List.getElem?_toArray, List.getElem?_cons_zero, List.getElem?_cons_succ]; rfl)
  case hQ90 => exact fun _ _ _ h => h
  case hy90 => exact y_int (w.heap.size + 1) 5 _ (fun V hV => (hV.2.1.cell 5).trans rfl) rfl
  simp only [Act.put, List.setIfInBounds_toArray, List.set_cons_zero, List.set_cons_succ]
  refine wpAnyH_take (i := 3) (oi := ?oi91) (v := .pointer (some ⟨w.heap.size + 1, 0, none⟩)) ?hi91 (by kernel_rfl) (by kernel_rfl) (by kernel_rfl) ?hQ91 ?hy91 (by assumption) ?rest91
  case hi91 => (simp only [List.getElem?_toArray, List.getElem?_cons_zero, List.getElem?_cons_succ]; rfl)
  case hQ91 => exact fun _ _ _ h => h
  case hy91 => exact Or.inl ⟨by rfl, by (intro w hSw; (try dsimp only at hSw); go_simp )⟩
  simp only [Act.put, List.setIfInBounds_toArray, List.set_cons_zero, List.set_cons_succ]
  refine wpAnyH_take (i := 4) (oi := ?oi92) (v := .int .i64 52) ?hi92 (by kernel_rfl) (by kernel_rfl) (by kernel_rfl) ?hQ92 ?hy92 (by assumption) ?rest92
  case hi92 => (simp only [List.getElem?_toArray, List.getElem?_cons_zero, List.getElem?_cons_succ]; rfl)
  case hQ92 => exact fun _ _ _ h => h
  case hy92 => exact y_int (w.heap.size + 1) 0 _ (fun V hV => (hV.2.1.cell 0).trans rfl) rfl
  simp only [Act.put, List.setIfInBounds_toArray, List.set_cons_zero, List.set_cons_succ]
  refine wpAnyH_take (i := 5) (oi := ?oi93) (v := .int .u32 (old : Nat)) ?hi93 (by kernel_rfl) (by kernel_rfl) (by kernel_rfl) ?hQ93 ?hy93 (by assumption) ?rest93
  case hi93 => (simp only [List.getElem?_toArray, List.getElem?_cons_zero, List.getElem?_cons_succ]; rfl)
  case hQ93 => exact fun _ _ _ h => h
  case hy93 => exact Or.inl ⟨by rfl, by (intro w hSw; (try dsimp only at hSw); go_simp )⟩
  simp only [Act.put, List.setIfInBounds_toArray, List.set_cons_zero, List.set_cons_succ]
  refine wpAnyH_take (i := 6) (oi := ?oi94) (v := .int .u32 ((h.x s1) : Nat)) ?hi94 (by kernel_rfl) (by kernel_rfl) (by kernel_rfl) ?hQ94 ?hy94 (by assumption) ?rest94
  case hi94 => (simp only [List.getElem?_toArray, List.getElem?_cons_zero, List.getElem?_cons_succ]; rfl)
  case hQ94 => exact fun _ _ _ h => h
  case hy94 => exact Or.inl ⟨by rfl, by (intro w hSw; (try dsimp only at hSw); go_simp <;> omega)⟩
  simp only [Act.put, List.setIfInBounds_toArray, List.set_cons_zero, List.set_cons_succ]
  refine wpAnyH_ready (rs := [0, 7]) (by kernel_rfl) (by simp) ?_
  refine AllReadyH.cons (o := ?oi95) ?hi95 (fun K hK => ?b95) (AllReadyH.cons (o := ?oi96) ?hi96 (fun K hK => ?b96) AllReadyH.nil)
  case hi95 => (simp only [List.getElem?_toArray, List.getElem?_cons_zero]; rfl)
  case hi96 => (simp only [List.getElem?_toArray, List.getElem?_cons_zero, List.getElem?_cons_succ]; rfl)
  case b95 =>
    rw [if_pos (by rfl)]
    (with_reducible refine w_ld_s (w.heap.size + 3) h.c hc2 ?_ ?_)
    · exact rfl
    simp only [Act.put, List.setIfInBounds_toArray, List.set_cons_zero, List.set_cons_succ]
    refine hK.out _ _ ?_ (fun hHeld => ?_)
    · exact hHeld
    clear hK K
    refine wpAnyH_ready (rs := [7]) (by kernel_rfl) (by simp) ?_
    refine AllReadyH.cons (o := ?oi97) ?hi97 (fun K hK => ?_) AllReadyH.nil
    case hi97 => (simp only [List.getElem?_toArray, List.getElem?_cons_zero, List.getElem?_cons_succ]; rfl)
    go_simp
    refine (HM.out _ ?_ _).mono ?_
    · first | rfl | omega
    rintro e V ⟨rfl, rfl⟩
    go_simp
    refine hK.out _ _ ?_ (fun hHeld => ?_)
    · exact hHeld
    clear hK K
    refine wpAnyH_ready (rs := [8]) (by kernel_rfl) (by simp) ?_
    refine AllReadyH.cons (o := ?oi98) ?hi98 (fun K hK => ?_) AllReadyH.nil
    case hi98 => (simp only [List.getElem?_toArray, List.getElem?_cons_zero, List.getElem?_cons_succ]; rfl)
    go_simp
    refine (HW.out _).mono ?_
    rintro e V ⟨rfl, hbc⟩
    replace hr := hHeld.1.bl hbc
    replace hi := hHeld.2.1.bl hbc
    replace hb := below_bl rfl hHeld.2.2.2 hbc
    replace hq := hq.bl hbc
    replace hc2 := hc2.bl hbc
    clear hHeld
    go_simp
    refine hK.out _ _ ?_ (fun hHeld => ?_)
    · exact ⟨hr, hi, Or.inl hc2, hb⟩
    clear hK K
    refine wpAnyH_take (i := 9) (oi := ?oi99) (v := .tuple #[.agg c.cells, (.iface 89 (.int .i64 ((k : Int) + 1)))]) ?hi99 (by kernel_rfl) (by kernel_rfl) (by kernel_rfl) ?hQ99 ?hy99 (by assumption) ?rest99
    case hi99 => (simp only [List.getElem?_toArray, List.getElem?_cons_zero, List.getElem?_cons_succ]; rfl)
    case hQ99 => exact fun _ _ _ h => h
    case hy99 => exact Or.inl ⟨by rfl, by (intro w hSw; (try dsimp only at hSw); go_simp )⟩
    simp only [Act.put, List.setIfInBounds_toArray, List.set_cons_zero, List.set_cons_succ]
    refine wpAnyH_take (i := 10) (oi := ?oi100) (v := .agg c.cells) ?hi100 (by kernel_rfl) (by kernel_rfl) (by kernel_rfl) ?hQ100 ?hy100 (by assumption) ?rest100
    case hi100 => (simp only [List.getElem?_toArray, List.getElem?_cons_zero, List.getElem?_cons_succ]; rfl)
    case hQ100 => exact fun _ _ _ h => h
    case hy100 => exact Or.inl ⟨by rfl, by (intro w hSw; (try dsimp only at hSw); go_simp )⟩
    simp only [Act.put, List.setIfInBounds_toArray, List.set_cons_zero, List.set_cons_succ]
    refine wpAnyH_take (i := 11) (oi := ?oi101) (v := (.iface 89 (.int .i64 ((k : Int) + 1)))) ?hi101 (by kernel_rfl) (by kernel_rfl) (by kernel_rfl) ?hQ101 ?hy101 (by assumption) ?rest101
    case hi101 => (simp only [List.getElem?_toArray, List.getElem?_cons_zero, List.getElem?_cons_succ]; rfl)
    case hQ101 => exact fun _ _ _ h => h
    case hy101 => exact Or.inl ⟨by rfl, by (intro w hSw; (try dsimp only at hSw); go_simp )⟩
    simp only [Act.put, List.setIfInBounds_toArray, List.set_cons_zero, List.set_cons_succ]
    refine wpAnyH_ready (rs := [12]) (by kernel_rfl) (by simp) ?_
    refine AllReadyH.cons (o := ?oi102) ?hi102 (fun K hK => ?_) AllReadyH.nil
    case hi102 => (simp only [List.getElem?_toArray, List.getElem?_cons_zero, List.getElem?_cons_succ]; rfl)
    rw [if_pos (by rfl)]
    (with_reducible refine s_s (w.heap.size + 3) _ c hc2 ?_ ?_ ?_)
    · exact rfl
    · exact rfl
    intro W hnew ho
    replace hr := hr.only ho (by omega)
    replace hi := hi.only ho (by omega)
    replace hq := hq.only ho (by omega)
    replace hb := ho.bel _ _ (by omega) hb
    replace hc2 := hnew
    clear hHeld
    refine hK.out _ _ ?_ (fun hHeld => ?_)
    · exact ⟨hr, hi, Or.inr hc2, hb⟩
    clear hK K
    refine wpAnyH_take (i := 13) (oi := ?oi103) (v := (.iface 89 (.int .i64 ((k : Int) + 1)))) ?hi103 (by kernel_rfl) (by kernel_rfl) (by kernel_rfl) ?hQ103 ?hy103 (by assumption) ?rest103
    case hi103 => (simp only [List.getElem?_toArray, List.getElem?_cons_zero, List.getElem?_cons_succ]; rfl)
    case hQ103 => exact fun _ _ _ h => h
    case hy103 => exact Or.inl ⟨by rfl, by (intro w hSw; (try dsimp only at hSw); go_simp )⟩
    simp only [Act.put, List.setIfInBounds_toArray, List.set_cons_zero, List.set_cons_succ]
    refine wpAnyH_done (by kernel_rfl) ?_ _
    have qa : W.cell? ⟨w.heap.size + 1, 0, none⟩ = some (.int .i64 52) := hi.cell 0
    have qb : W.cell? ⟨w.heap.size + 1, 1, none⟩ = some (.int .i64 (rd : Nat)) := hi.cell 1
    have qc : W.cell? ⟨w.heap.size + 1, 2, none⟩ = some (.int .i64 (s1 : Nat)) := hi.cell 2
    go_wp2_with (first | ((with_reducible refine ld_h w.heap.size _ hr ?_ ?_); exact rfl) | ((with_reducible refine ld_c w.heap.size _ hr ?_ ?_); exact rfl) | ((with_reducible refine ld_s (w.heap.size + 3) _ hc2 ?_ ?_); exact rfl) | ((with_reducible refine ld_op (w.heap.size + 1) _ hi ?_ ?_); exact rfl) | ((with_reducible refine ld_rd (w.heap.size + 1) _ hi ?_ ?_); exact rfl) | ((with_reducible refine ld_rs1 (w.heap.size + 1) _ hi ?_ ?_); exact rfl) | ((with_reducible refine ld_csr (w.heap.size + 1) _ hi ?_ ?_); exact rfl) | ((with_reducible refine ld_x w.heap.size s1 _ h1 hr ?_ ?_); exact rfl) | (go_at_call 22; refine (HT.out _).mono ?_; rintro e W ⟨rfl, hbc⟩; replace hr := hr.bl hbc; replace hi := hi.bl hbc; replace hq := hq.bl hbc; replace hc2 := hc2.bl hbc; replace hb := below_bl rfl hb hbc) | ((with_reducible refine st_h (w.heap.size + 2) _ (trapH h 2 v) hq ?_ ?_ ?_); exact rfl; exact rfl; intro W hnew ho; replace hr := hr.only ho (by omega); replace hi := hi.only ho (by omega); replace hc2 := hc2.only ho (by omega); replace hq := hnew; replace hb := ho.bel _ _ (by omega) hb))
    refine bodyPost_ret (results_cell_row Tryd.results26 _ _ (w.heap.size + 2) _ _ _ _ rfl hq Tryd.underlying31 rfl size_hart) rfl ?_
    exact ⟨rfl, hb⟩
  case b96 =>
    go_simp
    refine (HM.out _ ?_ _).mono ?_
    · first | rfl | omega
    rintro e V ⟨rfl, rfl⟩
    go_simp
    refine hK.out _ _ ?_ (fun hHeld => ?_)
    · exact hHeld
    clear hK K
    refine wpAnyH_ready (rs := [0]) (by kernel_rfl) (by simp) ?_
    refine AllReadyH.cons (o := ?oi104) ?hi104 (fun K hK => ?_) AllReadyH.nil
    case hi104 => (simp only [List.getElem?_toArray, List.getElem?_cons_zero]; rfl)
    rw [if_pos (by rfl)]
    (with_reducible refine w_ld_s (w.heap.size + 3) h.c hc2 ?_ ?_)
    · exact rfl
    simp only [Act.put, List.setIfInBounds_toArray, List.set_cons_zero, List.set_cons_succ]
    refine hK.out _ _ ?_ (fun hHeld => ?_)
    · exact hHeld
    clear hK K
    refine wpAnyH_ready (rs := [8]) (by kernel_rfl) (by simp) ?_
    refine AllReadyH.cons (o := ?oi105) ?hi105 (fun K hK => ?_) AllReadyH.nil
    case hi105 => (simp only [List.getElem?_toArray, List.getElem?_cons_zero, List.getElem?_cons_succ]; rfl)
    go_simp
    refine (HW.out _).mono ?_
    rintro e V ⟨rfl, hbc⟩
    replace hr := hHeld.1.bl hbc
    replace hi := hHeld.2.1.bl hbc
    replace hb := below_bl rfl hHeld.2.2.2 hbc
    replace hq := hq.bl hbc
    replace hc2 := hc2.bl hbc
    clear hHeld
    go_simp
    refine hK.out _ _ ?_ (fun hHeld => ?_)
    · exact ⟨hr, hi, Or.inl hc2, hb⟩
    clear hK K
    refine wpAnyH_take (i := 9) (oi := ?oi106) (v := .tuple #[.agg c.cells, (.iface 89 (.int .i64 ((k : Int) + 1)))]) ?hi106 (by kernel_rfl) (by kernel_rfl) (by kernel_rfl) ?hQ106 ?hy106 (by assumption) ?rest106
    case hi106 => (simp only [List.getElem?_toArray, List.getElem?_cons_zero, List.getElem?_cons_succ]; rfl)
    case hQ106 => exact fun _ _ _ h => h
    case hy106 => exact Or.inl ⟨by rfl, by (intro w hSw; (try dsimp only at hSw); go_simp )⟩
    simp only [Act.put, List.setIfInBounds_toArray, List.set_cons_zero, List.set_cons_succ]
    refine wpAnyH_take (i := 10) (oi := ?oi107) (v := .agg c.cells) ?hi107 (by kernel_rfl) (by kernel_rfl) (by kernel_rfl) ?hQ107 ?hy107 (by assumption) ?rest107
    case hi107 => (simp only [List.getElem?_toArray, List.getElem?_cons_zero, List.getElem?_cons_succ]; rfl)
    case hQ107 => exact fun _ _ _ h => h
    case hy107 => exact Or.inl ⟨by rfl, by (intro w hSw; (try dsimp only at hSw); go_simp )⟩
    simp only [Act.put, List.setIfInBounds_toArray, List.set_cons_zero, List.set_cons_succ]
    refine wpAnyH_take (i := 11) (oi := ?oi108) (v := (.iface 89 (.int .i64 ((k : Int) + 1)))) ?hi108 (by kernel_rfl) (by kernel_rfl) (by kernel_rfl) ?hQ108 ?hy108 (by assumption) ?rest108
    case hi108 => (simp only [List.getElem?_toArray, List.getElem?_cons_zero, List.getElem?_cons_succ]; rfl)
    case hQ108 => exact fun _ _ _ h => h
    case hy108 => exact Or.inl ⟨by rfl, by (intro w hSw; (try dsimp only at hSw); go_simp )⟩
    simp only [Act.put, List.setIfInBounds_toArray, List.set_cons_zero, List.set_cons_succ]
    refine wpAnyH_ready (rs := [12]) (by kernel_rfl) (by simp) ?_
    refine AllReadyH.cons (o := ?oi109) ?hi109 (fun K hK => ?_) AllReadyH.nil
    case hi109 => (simp only [List.getElem?_toArray, List.getElem?_cons_zero, List.getElem?_cons_succ]; rfl)
    rw [if_pos (by rfl)]
    (with_reducible refine s_s (w.heap.size + 3) _ c hc2 ?_ ?_ ?_)
    · exact rfl
    · exact rfl
    intro W hnew ho
    replace hr := hr.only ho (by omega)
    replace hi := hi.only ho (by omega)
    replace hq := hq.only ho (by omega)
    replace hb := ho.bel _ _ (by omega) hb
    replace hc2 := hnew
    clear hHeld
    refine hK.out _ _ ?_ (fun hHeld => ?_)
    · exact ⟨hr, hi, Or.inr hc2, hb⟩
    clear hK K
    refine wpAnyH_take (i := 13) (oi := ?oi110) (v := (.iface 89 (.int .i64 ((k : Int) + 1)))) ?hi110 (by kernel_rfl) (by kernel_rfl) (by kernel_rfl) ?hQ110 ?hy110 (by assumption) ?rest110
    case hi110 => (simp only [List.getElem?_toArray, List.getElem?_cons_zero, List.getElem?_cons_succ]; rfl)
    case hQ110 => exact fun _ _ _ h => h
    case hy110 => exact Or.inl ⟨by rfl, by (intro w hSw; (try dsimp only at hSw); go_simp )⟩
    simp only [Act.put, List.setIfInBounds_toArray, List.set_cons_zero, List.set_cons_succ]
    refine wpAnyH_done (by kernel_rfl) ?_ _
    have qa : W.cell? ⟨w.heap.size + 1, 0, none⟩ = some (.int .i64 52) := hi.cell 0
    have qb : W.cell? ⟨w.heap.size + 1, 1, none⟩ = some (.int .i64 (rd : Nat)) := hi.cell 1
    have qc : W.cell? ⟨w.heap.size + 1, 2, none⟩ = some (.int .i64 (s1 : Nat)) := hi.cell 2
    go_wp2_with (first | ((with_reducible refine ld_h w.heap.size _ hr ?_ ?_); exact rfl) | ((with_reducible refine ld_c w.heap.size _ hr ?_ ?_); exact rfl) | ((with_reducible refine ld_s (w.heap.size + 3) _ hc2 ?_ ?_); exact rfl) | ((with_reducible refine ld_op (w.heap.size + 1) _ hi ?_ ?_); exact rfl) | ((with_reducible refine ld_rd (w.heap.size + 1) _ hi ?_ ?_); exact rfl) | ((with_reducible refine ld_rs1 (w.heap.size + 1) _ hi ?_ ?_); exact rfl) | ((with_reducible refine ld_csr (w.heap.size + 1) _ hi ?_ ?_); exact rfl) | ((with_reducible refine ld_x w.heap.size s1 _ h1 hr ?_ ?_); exact rfl) | (go_at_call 22; refine (HT.out _).mono ?_; rintro e W ⟨rfl, hbc⟩; replace hr := hr.bl hbc; replace hi := hi.bl hbc; replace hq := hq.bl hbc; replace hc2 := hc2.bl hbc; replace hb := below_bl rfl hb hbc) | ((with_reducible refine st_h (w.heap.size + 2) _ (trapH h 2 v) hq ?_ ?_ ?_); exact rfl; exact rfl; intro W hnew ho; replace hr := hr.only ho (by omega); replace hi := hi.only ho (by omega); replace hc2 := hc2.only ho (by omega); replace hq := hnew; replace hb := ho.bel _ _ (by omega) hb))
    refine bodyPost_ret (results_cell_row Tryd.results26 _ _ (w.heap.size + 2) _ _ _ _ rfl hq Tryd.underlying31 rfl size_hart) rfl ?_
    exact ⟨rfl, hb⟩

set_option maxHeartbeats 2000000 in
theorem control_52rC (h : H) (ok : h.Ok) (rd s1 s2 : Nat) (im cs : Int) (hrd : rd < 32) (h1 : s1 < 32) (v l : Nat) (hl : l < 4294967296) (h0 : s1 ≠ 0) (old : Nat) (hold : old < 4294967296) (hR : readN h.c cs l = some old) (c : S8) (hc : c.Ok) (hW : writeN h.c cs (mixN 52 old (h.x s1)) = (c, 0)) (w : World) :
    Calls Tryd.prog 26 #[.agg h.cells, .agg (I6.cells ⟨52, (rd : Nat), (s1 : Nat), (s2 : Nat), im, cs⟩), .int .u32 v, .int .u32 l] w fun e w' => e = .returned (.agg (nextH (writeH (withC h c) rd old)).cells) ∧ Below w.heap.size w w' := by
  have b1 : (0 : Int) ≤ s1 := by omega
  have b2 : (s1 : Int) < 32 := by omega
  have t2 : ((s1 : Int) != 0) = true := by simp; omega
  clear h0
  have HR := hide (fun w => cs_read_bl h.c ok.c cs l hl w)
  rw [hR] at HR
  simp only [readV] at HR
  clear hR
  have HM : Hid (∀ z : Int, z = (((h.x s1) : Nat) : Int) → ∀ w, Calls Tryd.prog 54 #[.int .i64 52, .int .u32 old, .int .u32 z] w fun e w' => e = .returned (.int .u32 ((mixN 52 old (h.x s1)) : Nat)) ∧ w' = w) := hide (fun z hz w => by rw [hz]; exact mixed_52 old (h.x s1) hold (ok.x s1) w)
  have HW := hide (fun w => cs_write_bl h.c ok.c cs (mixN 52 old (h.x s1)) (mixN_lt 52 hold (ok.x s1)) w)
  rw [hW] at HW
  simp only [errW] at HW
  clear hW
  generalize (mixN 52 old (h.x s1)) = M at HM HW
  have ok' : H.Ok (withC h c) := ⟨ok.pc, ok.x, hc⟩
  have HWr := hide (fun w => write_any (withC h c) rd hrd old w)
  have HN := hide (fun w => next_any _ (writeH_ok ok' rd hold) w)
  go_enter Tryd.func26, Tryd.ntmps26
  go_wp2_with (first | ((with_reducible refine bx_h w.heap.size h ?_ ?_ ?_); exact rfl; exact rfl; intro W hr hb hz) | ((with_reducible refine bx_i (w.heap.size + 1) ⟨52, (rd : Nat), (s1 : Nat), (s2 : Nat), im, cs⟩ ?_ ?_ ?_); exact hz.out; exact rfl; intro W hi hb' hz'; replace hr := hr.bl (hz.out ▸ hb'); replace hb := hb.trans (hb'.mono (by omega)); replace hz := hz') | ((with_reducible refine al_h (w.heap.size + 2) ?_ ?_); exact hz.out; intro W hq hb' hz'; replace hr := hr.bl (hz.out ▸ hb'); replace hi := hi.bl (hz.out ▸ hb'); replace hb := hb.trans (hb'.mono (by omega)); replace hz := hz'; have qa : W.cell? ⟨w.heap.size + 1, 0, none⟩ = some (.int .i64 52) := hi.cell 0; have qb : W.cell? ⟨w.heap.size + 1, 1, none⟩ = some (.int .i64 (rd : Nat)) := hi.cell 1; have qc : W.cell? ⟨w.heap.size + 1, 2, none⟩ = some (.int .i64 (s1 : Nat)) := hi.cell 2) | ((with_reducible refine al_c (w.heap.size + 3) ?_ ?_); exact hz.out; intro W hc2 hb' hz'; replace hr := hr.bl (hz.out ▸ hb'); replace hi := hi.bl (hz.out ▸ hb'); replace hq := hq.bl (hz.out ▸ hb'); replace hb := hb.trans (hb'.mono (by omega)); replace hz := hz'; have qa : W.cell? ⟨w.heap.size + 1, 0, none⟩ = some (.int .i64 52) := hi.cell 0; have qb : W.cell? ⟨w.heap.size + 1, 1, none⟩ = some (.int .i64 (rd : Nat)) := hi.cell 1; have qc : W.cell? ⟨w.heap.size + 1, 2, none⟩ = some (.int .i64 (s1 : Nat)) := hi.cell 2) | ((with_reducible refine st_s (w.heap.size + 3) _ h.c hc2 ?_ ?_ ?_); exact rfl; exact rfl; intro W hnew ho; replace hr := hr.only ho (by omega); replace hi := hi.only ho (by omega); replace hq := hq.only ho (by omega); replace hc2 := hnew; replace hb := ho.bel _ _ (by omega) hb; have qa : W.cell? ⟨w.heap.size + 1, 0, none⟩ = some (.int .i64 52) := hi.cell 0; have qb : W.cell? ⟨w.heap.size + 1, 1, none⟩ = some (.int .i64 (rd : Nat)) := hi.cell 1; have qc : W.cell? ⟨w.heap.size + 1, 2, none⟩ = some (.int .i64 (s1 : Nat)) := hi.cell 2) | (go_at_call 52; refine (HR.out _).mono ?_; rintro e W ⟨rfl, hbc⟩; replace hr := hr.bl hbc; replace hi := hi.bl hbc; replace hq := hq.bl hbc; replace hc2 := hc2.bl hbc; replace hb := below_bl rfl hb hbc; have qa : W.cell? ⟨w.heap.size + 1, 0, none⟩ = some (.int .i64 52) := hi.cell 0; have qb : W.cell? ⟨w.heap.size + 1, 1, none⟩ = some (.int .i64 (rd : Nat)) := hi.cell 1; have qc : W.cell? ⟨w.heap.size + 1, 2, none⟩ = some (.int .i64 (s1 : Nat)) := hi.cell 2) | ((with_reducible refine ld_h w.heap.size _ hr ?_ ?_); exact rfl) | ((with_reducible refine ld_c w.heap.size _ hr ?_ ?_); exact rfl) | ((with_reducible refine ld_s (w.heap.size + 3) _ hc2 ?_ ?_); exact rfl) | ((with_reducible refine ld_op (w.heap.size + 1) _ hi ?_ ?_); exact rfl) | ((with_reducible refine ld_rd (w.heap.size + 1) _ hi ?_ ?_); exact rfl) | ((with_reducible refine ld_rs1 (w.heap.size + 1) _ hi ?_ ?_); exact rfl) | ((with_reducible refine ld_csr (w.heap.size + 1) _ hi ?_ ?_); exact rfl) | ((with_reducible refine ld_x w.heap.size s1 _ h1 hr ?_ ?_); exact rfl))
  refine wp_region_held_drew (S := (fun V => RowAt V w.heap.size h.cells 31 ∧ RowAt V (w.heap.size + 1) (I6.cells ⟨52, (rd : Nat), (s1 : Nat), (s2 : Nat), im, cs⟩) 61 ∧ (RowAt V (w.heap.size + 3) h.c.cells 29 ∨ RowAt V (w.heap.size + 3) c.cells 29) ∧ Below w.heap.size w V)) (by kernel_rfl) ?_ (fun hHeld => ?_)
  · exact ⟨hr.dr, hi.dr, Or.inl hc2.dr, hb.drew⟩
  replace hq := hq.dr
  replace hc2 := hc2.dr
  refine wpAnyH_take (i := 1) (oi := ?oi111) (v := .pointer (some ⟨w.heap.size + 1, 5, none⟩)) ?hi111 (by kernel_rfl) (by kernel_rfl) (by kernel_rfl) ?hQ111 ?hy111 (by assumption) ?rest111
  case hi111 => (simp only [List.getElem?_toArray, List.getElem?_cons_zero, List.getElem?_cons_succ]; rfl)
  case hQ111 => exact fun _ _ _ h => h
  case hy111 => exact Or.inl ⟨by rfl, by (intro w hSw; (try dsimp only at hSw); go_simp )⟩
  simp only [Act.put, List.setIfInBounds_toArray, List.set_cons_zero, List.set_cons_succ]
  refine wpAnyH_take (i := 2) (oi := ?oi112) (v := .int .i64 cs) ?hi112 (by kernel_rfl) (by kernel_rfl) (by kernel_rfl) ?hQ112 ?hy112 (by assumption) ?rest112
  case hi112 => (simp only [List.getElem?_toArray, List.getElem?_cons_zero, List.getElem?_cons_succ]; rfl)
  case hQ112 => exact fun _ _ _ h => h
  case hy112 => exact y_int (w.heap.size + 1) 5 _ (fun V hV => (hV.2.1.cell 5).trans rfl) rfl
  simp only [Act.put, List.setIfInBounds_toArray, List.set_cons_zero, List.set_cons_succ]
  refine wpAnyH_take (i := 3) (oi := ?oi113) (v := .pointer (some ⟨w.heap.size + 1, 0, none⟩)) ?hi113 (by kernel_rfl) (by kernel_rfl) (by kernel_rfl) ?hQ113 ?hy113 (by assumption) ?rest113
  case hi113 => (simp only [List.getElem?_toArray, List.getElem?_cons_zero, List.getElem?_cons_succ]; rfl)
  case hQ113 => exact fun _ _ _ h => h
  case hy113 => exact Or.inl ⟨by rfl, by (intro w hSw; (try dsimp only at hSw); go_simp )⟩
  simp only [Act.put, List.setIfInBounds_toArray, List.set_cons_zero, List.set_cons_succ]
  refine wpAnyH_take (i := 4) (oi := ?oi114) (v := .int .i64 52) ?hi114 (by kernel_rfl) (by kernel_rfl) (by kernel_rfl) ?hQ114 ?hy114 (by assumption) ?rest114
  case hi114 => (simp only [List.getElem?_toArray, List.getElem?_cons_zero, List.getElem?_cons_succ]; rfl)
  case hQ114 => exact fun _ _ _ h => h
  case hy114 => exact y_int (w.heap.size + 1) 0 _ (fun V hV => (hV.2.1.cell 0).trans rfl) rfl
  simp only [Act.put, List.setIfInBounds_toArray, List.set_cons_zero, List.set_cons_succ]
  refine wpAnyH_take (i := 5) (oi := ?oi115) (v := .int .u32 (old : Nat)) ?hi115 (by kernel_rfl) (by kernel_rfl) (by kernel_rfl) ?hQ115 ?hy115 (by assumption) ?rest115
  case hi115 => (simp only [List.getElem?_toArray, List.getElem?_cons_zero, List.getElem?_cons_succ]; rfl)
  case hQ115 => exact fun _ _ _ h => h
  case hy115 => exact Or.inl ⟨by rfl, by (intro w hSw; (try dsimp only at hSw); go_simp )⟩
  simp only [Act.put, List.setIfInBounds_toArray, List.set_cons_zero, List.set_cons_succ]
  refine wpAnyH_take (i := 6) (oi := ?oi116) (v := .int .u32 ((h.x s1) : Nat)) ?hi116 (by kernel_rfl) (by kernel_rfl) (by kernel_rfl) ?hQ116 ?hy116 (by assumption) ?rest116
  case hi116 => (simp only [List.getElem?_toArray, List.getElem?_cons_zero, List.getElem?_cons_succ]; rfl)
  case hQ116 => exact fun _ _ _ h => h
  case hy116 => exact Or.inl ⟨by rfl, by (intro w hSw; (try dsimp only at hSw); go_simp <;> omega)⟩
  simp only [Act.put, List.setIfInBounds_toArray, List.set_cons_zero, List.set_cons_succ]
  refine wpAnyH_ready (rs := [0, 7]) (by kernel_rfl) (by simp) ?_
  refine AllReadyH.cons (o := ?oi117) ?hi117 (fun K hK => ?b117) (AllReadyH.cons (o := ?oi118) ?hi118 (fun K hK => ?b118) AllReadyH.nil)
  case hi117 => (simp only [List.getElem?_toArray, List.getElem?_cons_zero]; rfl)
  case hi118 => (simp only [List.getElem?_toArray, List.getElem?_cons_zero, List.getElem?_cons_succ]; rfl)
  case b117 =>
    rw [if_pos (by rfl)]
    (with_reducible refine w_ld_s (w.heap.size + 3) h.c hc2 ?_ ?_)
    · exact rfl
    simp only [Act.put, List.setIfInBounds_toArray, List.set_cons_zero, List.set_cons_succ]
    refine hK.out _ _ ?_ (fun hHeld => ?_)
    · exact hHeld
    clear hK K
    refine wpAnyH_ready (rs := [7]) (by kernel_rfl) (by simp) ?_
    refine AllReadyH.cons (o := ?oi119) ?hi119 (fun K hK => ?_) AllReadyH.nil
    case hi119 => (simp only [List.getElem?_toArray, List.getElem?_cons_zero, List.getElem?_cons_succ]; rfl)
    go_simp
    refine (HM.out _ ?_ _).mono ?_
    · first | rfl | omega
    rintro e V ⟨rfl, rfl⟩
    go_simp
    refine hK.out _ _ ?_ (fun hHeld => ?_)
    · exact hHeld
    clear hK K
    refine wpAnyH_ready (rs := [8]) (by kernel_rfl) (by simp) ?_
    refine AllReadyH.cons (o := ?oi120) ?hi120 (fun K hK => ?_) AllReadyH.nil
    case hi120 => (simp only [List.getElem?_toArray, List.getElem?_cons_zero, List.getElem?_cons_succ]; rfl)
    go_simp
    refine (HW.out _).mono ?_
    rintro e V ⟨rfl, hbc⟩
    replace hr := hHeld.1.bl hbc
    replace hi := hHeld.2.1.bl hbc
    replace hb := below_bl rfl hHeld.2.2.2 hbc
    replace hq := hq.bl hbc
    replace hc2 := hc2.bl hbc
    clear hHeld
    go_simp
    refine hK.out _ _ ?_ (fun hHeld => ?_)
    · exact ⟨hr, hi, Or.inl hc2, hb⟩
    clear hK K
    refine wpAnyH_take (i := 9) (oi := ?oi121) (v := .tuple #[.agg c.cells, .nilIface]) ?hi121 (by kernel_rfl) (by kernel_rfl) (by kernel_rfl) ?hQ121 ?hy121 (by assumption) ?rest121
    case hi121 => (simp only [List.getElem?_toArray, List.getElem?_cons_zero, List.getElem?_cons_succ]; rfl)
    case hQ121 => exact fun _ _ _ h => h
    case hy121 => exact Or.inl ⟨by rfl, by (intro w hSw; (try dsimp only at hSw); go_simp )⟩
    simp only [Act.put, List.setIfInBounds_toArray, List.set_cons_zero, List.set_cons_succ]
    refine wpAnyH_take (i := 10) (oi := ?oi122) (v := .agg c.cells) ?hi122 (by kernel_rfl) (by kernel_rfl) (by kernel_rfl) ?hQ122 ?hy122 (by assumption) ?rest122
    case hi122 => (simp only [List.getElem?_toArray, List.getElem?_cons_zero, List.getElem?_cons_succ]; rfl)
    case hQ122 => exact fun _ _ _ h => h
    case hy122 => exact Or.inl ⟨by rfl, by (intro w hSw; (try dsimp only at hSw); go_simp )⟩
    simp only [Act.put, List.setIfInBounds_toArray, List.set_cons_zero, List.set_cons_succ]
    refine wpAnyH_take (i := 11) (oi := ?oi123) (v := .nilIface) ?hi123 (by kernel_rfl) (by kernel_rfl) (by kernel_rfl) ?hQ123 ?hy123 (by assumption) ?rest123
    case hi123 => (simp only [List.getElem?_toArray, List.getElem?_cons_zero, List.getElem?_cons_succ]; rfl)
    case hQ123 => exact fun _ _ _ h => h
    case hy123 => exact Or.inl ⟨by rfl, by (intro w hSw; (try dsimp only at hSw); go_simp )⟩
    simp only [Act.put, List.setIfInBounds_toArray, List.set_cons_zero, List.set_cons_succ]
    refine wpAnyH_ready (rs := [12]) (by kernel_rfl) (by simp) ?_
    refine AllReadyH.cons (o := ?oi124) ?hi124 (fun K hK => ?_) AllReadyH.nil
    case hi124 => (simp only [List.getElem?_toArray, List.getElem?_cons_zero, List.getElem?_cons_succ]; rfl)
    rw [if_pos (by rfl)]
    (with_reducible refine s_s (w.heap.size + 3) _ c hc2 ?_ ?_ ?_)
    · exact rfl
    · exact rfl
    intro W hnew ho
    replace hr := hr.only ho (by omega)
    replace hi := hi.only ho (by omega)
    replace hq := hq.only ho (by omega)
    replace hb := ho.bel _ _ (by omega) hb
    replace hc2 := hnew
    clear hHeld
    refine hK.out _ _ ?_ (fun hHeld => ?_)
    · exact ⟨hr, hi, Or.inr hc2, hb⟩
    clear hK K
    refine wpAnyH_take (i := 13) (oi := ?oi125) (v := .nilIface) ?hi125 (by kernel_rfl) (by kernel_rfl) (by kernel_rfl) ?hQ125 ?hy125 (by assumption) ?rest125
    case hi125 => (simp only [List.getElem?_toArray, List.getElem?_cons_zero, List.getElem?_cons_succ]; rfl)
    case hQ125 => exact fun _ _ _ h => h
    case hy125 => exact Or.inl ⟨by rfl, by (intro w hSw; (try dsimp only at hSw); go_simp )⟩
    simp only [Act.put, List.setIfInBounds_toArray, List.set_cons_zero, List.set_cons_succ]
    refine wpAnyH_done (by kernel_rfl) ?_ _
    have qa : W.cell? ⟨w.heap.size + 1, 0, none⟩ = some (.int .i64 52) := hi.cell 0
    have qb : W.cell? ⟨w.heap.size + 1, 1, none⟩ = some (.int .i64 (rd : Nat)) := hi.cell 1
    have qc : W.cell? ⟨w.heap.size + 1, 2, none⟩ = some (.int .i64 (s1 : Nat)) := hi.cell 2
    go_wp2_with (first | ((with_reducible refine ld_h w.heap.size _ hr ?_ ?_); exact rfl) | ((with_reducible refine ld_c w.heap.size _ hr ?_ ?_); exact rfl) | ((with_reducible refine ld_s (w.heap.size + 3) _ hc2 ?_ ?_); exact rfl) | ((with_reducible refine ld_op (w.heap.size + 1) _ hi ?_ ?_); exact rfl) | ((with_reducible refine ld_rd (w.heap.size + 1) _ hi ?_ ?_); exact rfl) | ((with_reducible refine ld_rs1 (w.heap.size + 1) _ hi ?_ ?_); exact rfl) | ((with_reducible refine ld_csr (w.heap.size + 1) _ hi ?_ ?_); exact rfl) | ((with_reducible refine ld_x w.heap.size s1 _ h1 hr ?_ ?_); exact rfl) | ((with_reducible refine st_c w.heap.size _ c hr ?_ ?_ ?_); exact rfl; exact rfl; intro W hnew ho; replace hi := hi.only ho (by omega); replace hq := hq.only ho (by omega); replace hc2 := hc2.only ho (by omega); replace hr := hnew; replace hb := ho.bel _ _ (by omega) hb) | (go_at_call 46; refine (HWr.out _).mono ?_; rintro e W ⟨rfl, hbc⟩; replace hr := hr.bl hbc; replace hi := hi.bl hbc; replace hq := hq.bl hbc; replace hc2 := hc2.bl hbc; replace hb := below_bl rfl hb hbc) | (go_at_call 45; refine (HN.out _).mono ?_; rintro e W ⟨rfl, hbc⟩; replace hr := hr.bl hbc; replace hi := hi.bl hbc; replace hq := hq.bl hbc; replace hc2 := hc2.bl hbc; replace hb := below_bl rfl hb hbc) | ((with_reducible refine st_h (w.heap.size + 2) _ (nextH (writeH (withC h c) rd old)) hq ?_ ?_ ?_); exact rfl; exact rfl; intro W hnew ho; replace hr := hr.only ho (by omega); replace hi := hi.only ho (by omega); replace hc2 := hc2.only ho (by omega); replace hq := hnew; replace hb := ho.bel _ _ (by omega) hb))
    refine bodyPost_ret (results_cell_row Tryd.results26 _ _ (w.heap.size + 2) _ _ _ _ rfl hq Tryd.underlying31 rfl size_hart) rfl ?_
    exact ⟨rfl, hb⟩
  case b118 =>
    go_simp
    refine (HM.out _ ?_ _).mono ?_
    · first | rfl | omega
    rintro e V ⟨rfl, rfl⟩
    go_simp
    refine hK.out _ _ ?_ (fun hHeld => ?_)
    · exact hHeld
    clear hK K
    refine wpAnyH_ready (rs := [0]) (by kernel_rfl) (by simp) ?_
    refine AllReadyH.cons (o := ?oi126) ?hi126 (fun K hK => ?_) AllReadyH.nil
    case hi126 => (simp only [List.getElem?_toArray, List.getElem?_cons_zero]; rfl)
    rw [if_pos (by rfl)]
    (with_reducible refine w_ld_s (w.heap.size + 3) h.c hc2 ?_ ?_)
    · exact rfl
    simp only [Act.put, List.setIfInBounds_toArray, List.set_cons_zero, List.set_cons_succ]
    refine hK.out _ _ ?_ (fun hHeld => ?_)
    · exact hHeld
    clear hK K
    refine wpAnyH_ready (rs := [8]) (by kernel_rfl) (by simp) ?_
    refine AllReadyH.cons (o := ?oi127) ?hi127 (fun K hK => ?_) AllReadyH.nil
    case hi127 => (simp only [List.getElem?_toArray, List.getElem?_cons_zero, List.getElem?_cons_succ]; rfl)
    go_simp
    refine (HW.out _).mono ?_
    rintro e V ⟨rfl, hbc⟩
    replace hr := hHeld.1.bl hbc
    replace hi := hHeld.2.1.bl hbc
    replace hb := below_bl rfl hHeld.2.2.2 hbc
    replace hq := hq.bl hbc
    replace hc2 := hc2.bl hbc
    clear hHeld
    go_simp
    refine hK.out _ _ ?_ (fun hHeld => ?_)
    · exact ⟨hr, hi, Or.inl hc2, hb⟩
    clear hK K
    refine wpAnyH_take (i := 9) (oi := ?oi128) (v := .tuple #[.agg c.cells, .nilIface]) ?hi128 (by kernel_rfl) (by kernel_rfl) (by kernel_rfl) ?hQ128 ?hy128 (by assumption) ?rest128
    case hi128 => (simp only [List.getElem?_toArray, List.getElem?_cons_zero, List.getElem?_cons_succ]; rfl)
    case hQ128 => exact fun _ _ _ h => h
    case hy128 => exact Or.inl ⟨by rfl, by (intro w hSw; (try dsimp only at hSw); go_simp )⟩
    simp only [Act.put, List.setIfInBounds_toArray, List.set_cons_zero, List.set_cons_succ]
    refine wpAnyH_take (i := 10) (oi := ?oi129) (v := .agg c.cells) ?hi129 (by kernel_rfl) (by kernel_rfl) (by kernel_rfl) ?hQ129 ?hy129 (by assumption) ?rest129
    case hi129 => (simp only [List.getElem?_toArray, List.getElem?_cons_zero, List.getElem?_cons_succ]; rfl)
    case hQ129 => exact fun _ _ _ h => h
    case hy129 => exact Or.inl ⟨by rfl, by (intro w hSw; (try dsimp only at hSw); go_simp )⟩
    simp only [Act.put, List.setIfInBounds_toArray, List.set_cons_zero, List.set_cons_succ]
    refine wpAnyH_take (i := 11) (oi := ?oi130) (v := .nilIface) ?hi130 (by kernel_rfl) (by kernel_rfl) (by kernel_rfl) ?hQ130 ?hy130 (by assumption) ?rest130
    case hi130 => (simp only [List.getElem?_toArray, List.getElem?_cons_zero, List.getElem?_cons_succ]; rfl)
    case hQ130 => exact fun _ _ _ h => h
    case hy130 => exact Or.inl ⟨by rfl, by (intro w hSw; (try dsimp only at hSw); go_simp )⟩
    simp only [Act.put, List.setIfInBounds_toArray, List.set_cons_zero, List.set_cons_succ]
    refine wpAnyH_ready (rs := [12]) (by kernel_rfl) (by simp) ?_
    refine AllReadyH.cons (o := ?oi131) ?hi131 (fun K hK => ?_) AllReadyH.nil
    case hi131 => (simp only [List.getElem?_toArray, List.getElem?_cons_zero, List.getElem?_cons_succ]; rfl)
    rw [if_pos (by rfl)]
    (with_reducible refine s_s (w.heap.size + 3) _ c hc2 ?_ ?_ ?_)
    · exact rfl
    · exact rfl
    intro W hnew ho
    replace hr := hr.only ho (by omega)
    replace hi := hi.only ho (by omega)
    replace hq := hq.only ho (by omega)
    replace hb := ho.bel _ _ (by omega) hb
    replace hc2 := hnew
    clear hHeld
    refine hK.out _ _ ?_ (fun hHeld => ?_)
    · exact ⟨hr, hi, Or.inr hc2, hb⟩
    clear hK K
    refine wpAnyH_take (i := 13) (oi := ?oi132) (v := .nilIface) ?hi132 (by kernel_rfl) (by kernel_rfl) (by kernel_rfl) ?hQ132 ?hy132 (by assumption) ?rest132
    case hi132 => (simp only [List.getElem?_toArray, List.getElem?_cons_zero, List.getElem?_cons_succ]; rfl)
    case hQ132 => exact fun _ _ _ h => h
    case hy132 => exact Or.inl ⟨by rfl, by (intro w hSw; (try dsimp only at hSw); go_simp )⟩
    simp only [Act.put, List.setIfInBounds_toArray, List.set_cons_zero, List.set_cons_succ]
    refine wpAnyH_done (by kernel_rfl) ?_ _
    have qa : W.cell? ⟨w.heap.size + 1, 0, none⟩ = some (.int .i64 52) := hi.cell 0
    have qb : W.cell? ⟨w.heap.size + 1, 1, none⟩ = some (.int .i64 (rd : Nat)) := hi.cell 1
    have qc : W.cell? ⟨w.heap.size + 1, 2, none⟩ = some (.int .i64 (s1 : Nat)) := hi.cell 2
    go_wp2_with (first | ((with_reducible refine ld_h w.heap.size _ hr ?_ ?_); exact rfl) | ((with_reducible refine ld_c w.heap.size _ hr ?_ ?_); exact rfl) | ((with_reducible refine ld_s (w.heap.size + 3) _ hc2 ?_ ?_); exact rfl) | ((with_reducible refine ld_op (w.heap.size + 1) _ hi ?_ ?_); exact rfl) | ((with_reducible refine ld_rd (w.heap.size + 1) _ hi ?_ ?_); exact rfl) | ((with_reducible refine ld_rs1 (w.heap.size + 1) _ hi ?_ ?_); exact rfl) | ((with_reducible refine ld_csr (w.heap.size + 1) _ hi ?_ ?_); exact rfl) | ((with_reducible refine ld_x w.heap.size s1 _ h1 hr ?_ ?_); exact rfl) | ((with_reducible refine st_c w.heap.size _ c hr ?_ ?_ ?_); exact rfl; exact rfl; intro W hnew ho; replace hi := hi.only ho (by omega); replace hq := hq.only ho (by omega); replace hc2 := hc2.only ho (by omega); replace hr := hnew; replace hb := ho.bel _ _ (by omega) hb) | (go_at_call 46; refine (HWr.out _).mono ?_; rintro e W ⟨rfl, hbc⟩; replace hr := hr.bl hbc; replace hi := hi.bl hbc; replace hq := hq.bl hbc; replace hc2 := hc2.bl hbc; replace hb := below_bl rfl hb hbc) | (go_at_call 45; refine (HN.out _).mono ?_; rintro e W ⟨rfl, hbc⟩; replace hr := hr.bl hbc; replace hi := hi.bl hbc; replace hq := hq.bl hbc; replace hc2 := hc2.bl hbc; replace hb := below_bl rfl hb hbc) | ((with_reducible refine st_h (w.heap.size + 2) _ (nextH (writeH (withC h c) rd old)) hq ?_ ?_ ?_); exact rfl; exact rfl; intro W hnew ho; replace hr := hr.only ho (by omega); replace hi := hi.only ho (by omega); replace hc2 := hc2.only ho (by omega); replace hq := hnew; replace hb := ho.bel _ _ (by omega) hb))
    refine bodyPost_ret (results_cell_row Tryd.results26 _ _ (w.heap.size + 2) _ _ _ _ rfl hq Tryd.underlying31 rfl size_hart) rfl ?_
    exact ⟨rfl, hb⟩

set_option maxHeartbeats 2000000 in
theorem control_52rD (h : H) (ok : h.Ok) (rd s1 s2 : Nat) (im cs : Int) (hrd : rd < 32) (h1 : s1 < 32) (v l : Nat) (hl : l < 4294967296) (h0 : s1 = 0) (old : Nat) (hold : old < 4294967296) (hR : readN h.c cs l = some old) (w : World) :
    Calls Tryd.prog 26 #[.agg h.cells, .agg (I6.cells ⟨52, (rd : Nat), (s1 : Nat), (s2 : Nat), im, cs⟩), .int .u32 v, .int .u32 l] w fun e w' => e = .returned (.agg (nextH (writeH h rd old)).cells) ∧ Below w.heap.size w w' := by
  have b1 : (0 : Int) ≤ s1 := by omega
  have b2 : (s1 : Int) < 32 := by omega
  have t2 : ((s1 : Int) != 0) = false := by simp; omega
  clear h0
  have HR := hide (fun w => cs_read_bl h.c ok.c cs l hl w)
  rw [hR] at HR
  simp only [readV] at HR
  clear hR
  have ok' : H.Ok h := ok
  have HWr := hide (fun w => write_any h rd hrd old w)
  have HN := hide (fun w => next_any _ (writeH_ok ok' rd hold) w)
  go_enter Tryd.func26, Tryd.ntmps26
  go_wp2_with (first | ((with_reducible refine bx_h w.heap.size h ?_ ?_ ?_); exact rfl; exact rfl; intro W hr hb hz) | ((with_reducible refine bx_i (w.heap.size + 1) ⟨52, (rd : Nat), (s1 : Nat), (s2 : Nat), im, cs⟩ ?_ ?_ ?_); exact hz.out; exact rfl; intro W hi hb' hz'; replace hr := hr.bl (hz.out ▸ hb'); replace hb := hb.trans (hb'.mono (by omega)); replace hz := hz') | ((with_reducible refine al_h (w.heap.size + 2) ?_ ?_); exact hz.out; intro W hq hb' hz'; replace hr := hr.bl (hz.out ▸ hb'); replace hi := hi.bl (hz.out ▸ hb'); replace hb := hb.trans (hb'.mono (by omega)); replace hz := hz'; have qa : W.cell? ⟨w.heap.size + 1, 0, none⟩ = some (.int .i64 52) := hi.cell 0; have qb : W.cell? ⟨w.heap.size + 1, 1, none⟩ = some (.int .i64 (rd : Nat)) := hi.cell 1; have qc : W.cell? ⟨w.heap.size + 1, 2, none⟩ = some (.int .i64 (s1 : Nat)) := hi.cell 2) | ((with_reducible refine al_c (w.heap.size + 3) ?_ ?_); exact hz.out; intro W hc2 hb' hz'; replace hr := hr.bl (hz.out ▸ hb'); replace hi := hi.bl (hz.out ▸ hb'); replace hq := hq.bl (hz.out ▸ hb'); replace hb := hb.trans (hb'.mono (by omega)); replace hz := hz'; have qa : W.cell? ⟨w.heap.size + 1, 0, none⟩ = some (.int .i64 52) := hi.cell 0; have qb : W.cell? ⟨w.heap.size + 1, 1, none⟩ = some (.int .i64 (rd : Nat)) := hi.cell 1; have qc : W.cell? ⟨w.heap.size + 1, 2, none⟩ = some (.int .i64 (s1 : Nat)) := hi.cell 2) | ((with_reducible refine st_s (w.heap.size + 3) _ h.c hc2 ?_ ?_ ?_); exact rfl; exact rfl; intro W hnew ho; replace hr := hr.only ho (by omega); replace hi := hi.only ho (by omega); replace hq := hq.only ho (by omega); replace hc2 := hnew; replace hb := ho.bel _ _ (by omega) hb; have qa : W.cell? ⟨w.heap.size + 1, 0, none⟩ = some (.int .i64 52) := hi.cell 0; have qb : W.cell? ⟨w.heap.size + 1, 1, none⟩ = some (.int .i64 (rd : Nat)) := hi.cell 1; have qc : W.cell? ⟨w.heap.size + 1, 2, none⟩ = some (.int .i64 (s1 : Nat)) := hi.cell 2) | (go_at_call 52; refine (HR.out _).mono ?_; rintro e W ⟨rfl, hbc⟩; replace hr := hr.bl hbc; replace hi := hi.bl hbc; replace hq := hq.bl hbc; replace hc2 := hc2.bl hbc; replace hb := below_bl rfl hb hbc; have qa : W.cell? ⟨w.heap.size + 1, 0, none⟩ = some (.int .i64 52) := hi.cell 0; have qb : W.cell? ⟨w.heap.size + 1, 1, none⟩ = some (.int .i64 (rd : Nat)) := hi.cell 1; have qc : W.cell? ⟨w.heap.size + 1, 2, none⟩ = some (.int .i64 (s1 : Nat)) := hi.cell 2) | ((with_reducible refine ld_h w.heap.size _ hr ?_ ?_); exact rfl) | ((with_reducible refine ld_c w.heap.size _ hr ?_ ?_); exact rfl) | ((with_reducible refine ld_s (w.heap.size + 3) _ hc2 ?_ ?_); exact rfl) | ((with_reducible refine ld_op (w.heap.size + 1) _ hi ?_ ?_); exact rfl) | ((with_reducible refine ld_rd (w.heap.size + 1) _ hi ?_ ?_); exact rfl) | ((with_reducible refine ld_rs1 (w.heap.size + 1) _ hi ?_ ?_); exact rfl) | ((with_reducible refine ld_csr (w.heap.size + 1) _ hi ?_ ?_); exact rfl) | ((with_reducible refine ld_x w.heap.size s1 _ h1 hr ?_ ?_); exact rfl) | ((with_reducible refine st_c w.heap.size _ h.c hr ?_ ?_ ?_); exact rfl; exact rfl; intro W hnew ho; replace hi := hi.only ho (by omega); replace hq := hq.only ho (by omega); replace hc2 := hc2.only ho (by omega); replace hr := hnew; replace hb := ho.bel _ _ (by omega) hb) | (go_at_call 46; refine (HWr.out _).mono ?_; rintro e W ⟨rfl, hbc⟩; replace hr := hr.bl hbc; replace hi := hi.bl hbc; replace hq := hq.bl hbc; replace hc2 := hc2.bl hbc; replace hb := below_bl rfl hb hbc) | (go_at_call 45; refine (HN.out _).mono ?_; rintro e W ⟨rfl, hbc⟩; replace hr := hr.bl hbc; replace hi := hi.bl hbc; replace hq := hq.bl hbc; replace hc2 := hc2.bl hbc; replace hb := below_bl rfl hb hbc) | ((with_reducible refine st_h (w.heap.size + 2) _ (nextH (writeH h rd old)) hq ?_ ?_ ?_); exact rfl; exact rfl; intro W hnew ho; replace hr := hr.only ho (by omega); replace hi := hi.only ho (by omega); replace hc2 := hc2.only ho (by omega); replace hq := hnew; replace hb := ho.bel _ _ (by omega) hb))
  refine bodyPost_ret (results_cell_row Tryd.results26 _ _ (w.heap.size + 2) _ _ _ _ rfl hq Tryd.underlying31 rfl size_hart) rfl ?_
  exact ⟨rfl, hb⟩

set_option maxHeartbeats 2000000 in
theorem control_53rA (h : H) (ok : h.Ok) (rd s1 s2 : Nat) (im cs : Int) (hrd : rd < 32) (h1 : s1 < 32) (v l : Nat) (hl : l < 4294967296) (hR : readN h.c cs l = none) (w : World) :
    Calls Tryd.prog 26 #[.agg h.cells, .agg (I6.cells ⟨53, (rd : Nat), (s1 : Nat), (s2 : Nat), im, cs⟩), .int .u32 v, .int .u32 l] w fun e w' => e = .returned (.agg (trapH h 2 v).cells) ∧ Below w.heap.size w w' := by
  have b1 : (0 : Int) ≤ s1 := by omega
  have b2 : (s1 : Int) < 32 := by omega
  have HR := hide (fun w => cs_read_bl h.c ok.c cs l hl w)
  rw [hR] at HR
  simp only [readV] at HR
  clear hR
  have HT := hide (fun w => trap_any h ok 2 v (by decide) w)
  rw [show (((2 : Nat) : Int)) = 2 from rfl] at HT
  go_enter Tryd.func26, Tryd.ntmps26
  go_wp2_with (first | ((with_reducible refine bx_h w.heap.size h ?_ ?_ ?_); exact rfl; exact rfl; intro W hr hb hz) | ((with_reducible refine bx_i (w.heap.size + 1) ⟨53, (rd : Nat), (s1 : Nat), (s2 : Nat), im, cs⟩ ?_ ?_ ?_); exact hz.out; exact rfl; intro W hi hb' hz'; replace hr := hr.bl (hz.out ▸ hb'); replace hb := hb.trans (hb'.mono (by omega)); replace hz := hz') | ((with_reducible refine al_h (w.heap.size + 2) ?_ ?_); exact hz.out; intro W hq hb' hz'; replace hr := hr.bl (hz.out ▸ hb'); replace hi := hi.bl (hz.out ▸ hb'); replace hb := hb.trans (hb'.mono (by omega)); replace hz := hz'; have qa : W.cell? ⟨w.heap.size + 1, 0, none⟩ = some (.int .i64 53) := hi.cell 0; have qb : W.cell? ⟨w.heap.size + 1, 1, none⟩ = some (.int .i64 (rd : Nat)) := hi.cell 1; have qc : W.cell? ⟨w.heap.size + 1, 2, none⟩ = some (.int .i64 (s1 : Nat)) := hi.cell 2) | ((with_reducible refine al_c (w.heap.size + 3) ?_ ?_); exact hz.out; intro W hc2 hb' hz'; replace hr := hr.bl (hz.out ▸ hb'); replace hi := hi.bl (hz.out ▸ hb'); replace hq := hq.bl (hz.out ▸ hb'); replace hb := hb.trans (hb'.mono (by omega)); replace hz := hz'; have qa : W.cell? ⟨w.heap.size + 1, 0, none⟩ = some (.int .i64 53) := hi.cell 0; have qb : W.cell? ⟨w.heap.size + 1, 1, none⟩ = some (.int .i64 (rd : Nat)) := hi.cell 1; have qc : W.cell? ⟨w.heap.size + 1, 2, none⟩ = some (.int .i64 (s1 : Nat)) := hi.cell 2) | ((with_reducible refine st_s (w.heap.size + 3) _ h.c hc2 ?_ ?_ ?_); exact rfl; exact rfl; intro W hnew ho; replace hr := hr.only ho (by omega); replace hi := hi.only ho (by omega); replace hq := hq.only ho (by omega); replace hc2 := hnew; replace hb := ho.bel _ _ (by omega) hb; have qa : W.cell? ⟨w.heap.size + 1, 0, none⟩ = some (.int .i64 53) := hi.cell 0; have qb : W.cell? ⟨w.heap.size + 1, 1, none⟩ = some (.int .i64 (rd : Nat)) := hi.cell 1; have qc : W.cell? ⟨w.heap.size + 1, 2, none⟩ = some (.int .i64 (s1 : Nat)) := hi.cell 2) | (go_at_call 52; refine (HR.out _).mono ?_; rintro e W ⟨rfl, hbc⟩; replace hr := hr.bl hbc; replace hi := hi.bl hbc; replace hq := hq.bl hbc; replace hc2 := hc2.bl hbc; replace hb := below_bl rfl hb hbc; have qa : W.cell? ⟨w.heap.size + 1, 0, none⟩ = some (.int .i64 53) := hi.cell 0; have qb : W.cell? ⟨w.heap.size + 1, 1, none⟩ = some (.int .i64 (rd : Nat)) := hi.cell 1; have qc : W.cell? ⟨w.heap.size + 1, 2, none⟩ = some (.int .i64 (s1 : Nat)) := hi.cell 2) | ((with_reducible refine ld_h w.heap.size _ hr ?_ ?_); exact rfl) | ((with_reducible refine ld_c w.heap.size _ hr ?_ ?_); exact rfl) | ((with_reducible refine ld_s (w.heap.size + 3) _ hc2 ?_ ?_); exact rfl) | ((with_reducible refine ld_op (w.heap.size + 1) _ hi ?_ ?_); exact rfl) | ((with_reducible refine ld_rd (w.heap.size + 1) _ hi ?_ ?_); exact rfl) | ((with_reducible refine ld_rs1 (w.heap.size + 1) _ hi ?_ ?_); exact rfl) | ((with_reducible refine ld_csr (w.heap.size + 1) _ hi ?_ ?_); exact rfl) | ((with_reducible refine ld_x w.heap.size s1 _ h1 hr ?_ ?_); exact rfl) | (go_at_call 22; refine (HT.out _).mono ?_; rintro e W ⟨rfl, hbc⟩; replace hr := hr.bl hbc; replace hi := hi.bl hbc; replace hq := hq.bl hbc; replace hc2 := hc2.bl hbc; replace hb := below_bl rfl hb hbc) | ((with_reducible refine st_h (w.heap.size + 2) _ (trapH h 2 v) hq ?_ ?_ ?_); exact rfl; exact rfl; intro W hnew ho; replace hr := hr.only ho (by omega); replace hi := hi.only ho (by omega); replace hc2 := hc2.only ho (by omega); replace hq := hnew; replace hb := ho.bel _ _ (by omega) hb))
  refine bodyPost_ret (results_cell_row Tryd.results26 _ _ (w.heap.size + 2) _ _ _ _ rfl hq Tryd.underlying31 rfl size_hart) rfl ?_
  exact ⟨rfl, hb⟩

set_option maxHeartbeats 2000000 in
theorem control_53rB (h : H) (ok : h.Ok) (rd s1 s2 : Nat) (im cs : Int) (hrd : rd < 32) (h1 : s1 < 32) (v l : Nat) (hl : l < 4294967296) (h0 : s1 ≠ 0) (old : Nat) (hold : old < 4294967296) (hR : readN h.c cs l = some old) (c : S8) (k : Nat) (hW : writeN h.c cs (mixN 53 old (h.x s1)) = (c, k + 1)) (w : World) :
    Calls Tryd.prog 26 #[.agg h.cells, .agg (I6.cells ⟨53, (rd : Nat), (s1 : Nat), (s2 : Nat), im, cs⟩), .int .u32 v, .int .u32 l] w fun e w' => e = .returned (.agg (trapH h 2 v).cells) ∧ Below w.heap.size w w' := by
  have b1 : (0 : Int) ≤ s1 := by omega
  have b2 : (s1 : Int) < 32 := by omega
  have t2 : ((s1 : Int) != 0) = true := by simp; omega
  clear h0
  have HR := hide (fun w => cs_read_bl h.c ok.c cs l hl w)
  rw [hR] at HR
  simp only [readV] at HR
  clear hR
  have HM : Hid (∀ z : Int, z = (((h.x s1) : Nat) : Int) → ∀ w, Calls Tryd.prog 54 #[.int .i64 53, .int .u32 old, .int .u32 z] w fun e w' => e = .returned (.int .u32 ((mixN 53 old (h.x s1)) : Nat)) ∧ w' = w) := hide (fun z hz w => by rw [hz]; exact mixed_53 old (h.x s1) hold (ok.x s1) w)
  have HW := hide (fun w => cs_write_bl h.c ok.c cs (mixN 53 old (h.x s1)) (mixN_lt 53 hold (ok.x s1)) w)
  rw [hW] at HW
  simp only [errW] at HW
  clear hW
  generalize (mixN 53 old (h.x s1)) = M at HM HW
  have HT := hide (fun w => trap_any h ok 2 v (by decide) w)
  rw [show (((2 : Nat) : Int)) = 2 from rfl] at HT
  go_enter Tryd.func26, Tryd.ntmps26
  go_wp2_with (first | ((with_reducible refine bx_h w.heap.size h ?_ ?_ ?_); exact rfl; exact rfl; intro W hr hb hz) | ((with_reducible refine bx_i (w.heap.size + 1) ⟨53, (rd : Nat), (s1 : Nat), (s2 : Nat), im, cs⟩ ?_ ?_ ?_); exact hz.out; exact rfl; intro W hi hb' hz'; replace hr := hr.bl (hz.out ▸ hb'); replace hb := hb.trans (hb'.mono (by omega)); replace hz := hz') | ((with_reducible refine al_h (w.heap.size + 2) ?_ ?_); exact hz.out; intro W hq hb' hz'; replace hr := hr.bl (hz.out ▸ hb'); replace hi := hi.bl (hz.out ▸ hb'); replace hb := hb.trans (hb'.mono (by omega)); replace hz := hz'; have qa : W.cell? ⟨w.heap.size + 1, 0, none⟩ = some (.int .i64 53) := hi.cell 0; have qb : W.cell? ⟨w.heap.size + 1, 1, none⟩ = some (.int .i64 (rd : Nat)) := hi.cell 1; have qc : W.cell? ⟨w.heap.size + 1, 2, none⟩ = some (.int .i64 (s1 : Nat)) := hi.cell 2) | ((with_reducible refine al_c (w.heap.size + 3) ?_ ?_); exact hz.out; intro W hc2 hb' hz'; replace hr := hr.bl (hz.out ▸ hb'); replace hi := hi.bl (hz.out ▸ hb'); replace hq := hq.bl (hz.out ▸ hb'); replace hb := hb.trans (hb'.mono (by omega)); replace hz := hz'; have qa : W.cell? ⟨w.heap.size + 1, 0, none⟩ = some (.int .i64 53) := hi.cell 0; have qb : W.cell? ⟨w.heap.size + 1, 1, none⟩ = some (.int .i64 (rd : Nat)) := hi.cell 1; have qc : W.cell? ⟨w.heap.size + 1, 2, none⟩ = some (.int .i64 (s1 : Nat)) := hi.cell 2) | ((with_reducible refine st_s (w.heap.size + 3) _ h.c hc2 ?_ ?_ ?_); exact rfl; exact rfl; intro W hnew ho; replace hr := hr.only ho (by omega); replace hi := hi.only ho (by omega); replace hq := hq.only ho (by omega); replace hc2 := hnew; replace hb := ho.bel _ _ (by omega) hb; have qa : W.cell? ⟨w.heap.size + 1, 0, none⟩ = some (.int .i64 53) := hi.cell 0; have qb : W.cell? ⟨w.heap.size + 1, 1, none⟩ = some (.int .i64 (rd : Nat)) := hi.cell 1; have qc : W.cell? ⟨w.heap.size + 1, 2, none⟩ = some (.int .i64 (s1 : Nat)) := hi.cell 2) | (go_at_call 52; refine (HR.out _).mono ?_; rintro e W ⟨rfl, hbc⟩; replace hr := hr.bl hbc; replace hi := hi.bl hbc; replace hq := hq.bl hbc; replace hc2 := hc2.bl hbc; replace hb := below_bl rfl hb hbc; have qa : W.cell? ⟨w.heap.size + 1, 0, none⟩ = some (.int .i64 53) := hi.cell 0; have qb : W.cell? ⟨w.heap.size + 1, 1, none⟩ = some (.int .i64 (rd : Nat)) := hi.cell 1; have qc : W.cell? ⟨w.heap.size + 1, 2, none⟩ = some (.int .i64 (s1 : Nat)) := hi.cell 2) | ((with_reducible refine ld_h w.heap.size _ hr ?_ ?_); exact rfl) | ((with_reducible refine ld_c w.heap.size _ hr ?_ ?_); exact rfl) | ((with_reducible refine ld_s (w.heap.size + 3) _ hc2 ?_ ?_); exact rfl) | ((with_reducible refine ld_op (w.heap.size + 1) _ hi ?_ ?_); exact rfl) | ((with_reducible refine ld_rd (w.heap.size + 1) _ hi ?_ ?_); exact rfl) | ((with_reducible refine ld_rs1 (w.heap.size + 1) _ hi ?_ ?_); exact rfl) | ((with_reducible refine ld_csr (w.heap.size + 1) _ hi ?_ ?_); exact rfl) | ((with_reducible refine ld_x w.heap.size s1 _ h1 hr ?_ ?_); exact rfl))
  refine wp_region_held_drew (S := (fun V => RowAt V w.heap.size h.cells 31 ∧ RowAt V (w.heap.size + 1) (I6.cells ⟨53, (rd : Nat), (s1 : Nat), (s2 : Nat), im, cs⟩) 61 ∧ (RowAt V (w.heap.size + 3) h.c.cells 29 ∨ RowAt V (w.heap.size + 3) c.cells 29) ∧ Below w.heap.size w V)) (by kernel_rfl) ?_ (fun hHeld => ?_)
  · exact ⟨hr.dr, hi.dr, Or.inl hc2.dr, hb.drew⟩
  replace hq := hq.dr
  replace hc2 := hc2.dr
  refine wpAnyH_take (i := 1) (oi := ?oi133) (v := .pointer (some ⟨w.heap.size + 1, 5, none⟩)) ?hi133 (by kernel_rfl) (by kernel_rfl) (by kernel_rfl) ?hQ133 ?hy133 (by assumption) ?rest133
  case hi133 => (simp only [List.getElem?_toArray, List.getElem?_cons_zero, List.getElem?_cons_succ]; rfl)
  case hQ133 => exact fun _ _ _ h => h
  case hy133 => exact Or.inl ⟨by rfl, by (intro w hSw; (try dsimp only at hSw); go_simp )⟩
  simp only [Act.put, List.setIfInBounds_toArray, List.set_cons_zero, List.set_cons_succ]
  refine wpAnyH_take (i := 2) (oi := ?oi134) (v := .int .i64 cs) ?hi134 (by kernel_rfl) (by kernel_rfl) (by kernel_rfl) ?hQ134 ?hy134 (by assumption) ?rest134
  case hi134 => (simp only [List.getElem?_toArray, List.getElem?_cons_zero, List.getElem?_cons_succ]; rfl)
  case hQ134 => exact fun _ _ _ h => h
  case hy134 => exact y_int (w.heap.size + 1) 5 _ (fun V hV => (hV.2.1.cell 5).trans rfl) rfl
  simp only [Act.put, List.setIfInBounds_toArray, List.set_cons_zero, List.set_cons_succ]
  refine wpAnyH_take (i := 3) (oi := ?oi135) (v := .pointer (some ⟨w.heap.size + 1, 0, none⟩)) ?hi135 (by kernel_rfl) (by kernel_rfl) (by kernel_rfl) ?hQ135 ?hy135 (by assumption) ?rest135
  case hi135 => (simp only [List.getElem?_toArray, List.getElem?_cons_zero, List.getElem?_cons_succ]; rfl)
  case hQ135 => exact fun _ _ _ h => h
  case hy135 => exact Or.inl ⟨by rfl, by (intro w hSw; (try dsimp only at hSw); go_simp )⟩
  simp only [Act.put, List.setIfInBounds_toArray, List.set_cons_zero, List.set_cons_succ]
  refine wpAnyH_take (i := 4) (oi := ?oi136) (v := .int .i64 53) ?hi136 (by kernel_rfl) (by kernel_rfl) (by kernel_rfl) ?hQ136 ?hy136 (by assumption) ?rest136
  case hi136 => (simp only [List.getElem?_toArray, List.getElem?_cons_zero, List.getElem?_cons_succ]; rfl)
  case hQ136 => exact fun _ _ _ h => h
  case hy136 => exact y_int (w.heap.size + 1) 0 _ (fun V hV => (hV.2.1.cell 0).trans rfl) rfl
  simp only [Act.put, List.setIfInBounds_toArray, List.set_cons_zero, List.set_cons_succ]
  refine wpAnyH_take (i := 5) (oi := ?oi137) (v := .int .u32 (old : Nat)) ?hi137 (by kernel_rfl) (by kernel_rfl) (by kernel_rfl) ?hQ137 ?hy137 (by assumption) ?rest137
  case hi137 => (simp only [List.getElem?_toArray, List.getElem?_cons_zero, List.getElem?_cons_succ]; rfl)
  case hQ137 => exact fun _ _ _ h => h
  case hy137 => exact Or.inl ⟨by rfl, by (intro w hSw; (try dsimp only at hSw); go_simp )⟩
  simp only [Act.put, List.setIfInBounds_toArray, List.set_cons_zero, List.set_cons_succ]
  refine wpAnyH_take (i := 6) (oi := ?oi138) (v := .int .u32 ((h.x s1) : Nat)) ?hi138 (by kernel_rfl) (by kernel_rfl) (by kernel_rfl) ?hQ138 ?hy138 (by assumption) ?rest138
  case hi138 => (simp only [List.getElem?_toArray, List.getElem?_cons_zero, List.getElem?_cons_succ]; rfl)
  case hQ138 => exact fun _ _ _ h => h
  case hy138 => exact Or.inl ⟨by rfl, by (intro w hSw; (try dsimp only at hSw); go_simp <;> omega)⟩
  simp only [Act.put, List.setIfInBounds_toArray, List.set_cons_zero, List.set_cons_succ]
  refine wpAnyH_ready (rs := [0, 7]) (by kernel_rfl) (by simp) ?_
  refine AllReadyH.cons (o := ?oi139) ?hi139 (fun K hK => ?b139) (AllReadyH.cons (o := ?oi140) ?hi140 (fun K hK => ?b140) AllReadyH.nil)
  case hi139 => (simp only [List.getElem?_toArray, List.getElem?_cons_zero]; rfl)
  case hi140 => (simp only [List.getElem?_toArray, List.getElem?_cons_zero, List.getElem?_cons_succ]; rfl)
  case b139 =>
    rw [if_pos (by rfl)]
    (with_reducible refine w_ld_s (w.heap.size + 3) h.c hc2 ?_ ?_)
    · exact rfl
    simp only [Act.put, List.setIfInBounds_toArray, List.set_cons_zero, List.set_cons_succ]
    refine hK.out _ _ ?_ (fun hHeld => ?_)
    · exact hHeld
    clear hK K
    refine wpAnyH_ready (rs := [7]) (by kernel_rfl) (by simp) ?_
    refine AllReadyH.cons (o := ?oi141) ?hi141 (fun K hK => ?_) AllReadyH.nil
    case hi141 => (simp only [List.getElem?_toArray, List.getElem?_cons_zero, List.getElem?_cons_succ]; rfl)
    go_simp
    refine (HM.out _ ?_ _).mono ?_
    · first | rfl | omega
    rintro e V ⟨rfl, rfl⟩
    go_simp
    refine hK.out _ _ ?_ (fun hHeld => ?_)
    · exact hHeld
    clear hK K
    refine wpAnyH_ready (rs := [8]) (by kernel_rfl) (by simp) ?_
    refine AllReadyH.cons (o := ?oi142) ?hi142 (fun K hK => ?_) AllReadyH.nil
    case hi142 => (simp only [List.getElem?_toArray, List.getElem?_cons_zero, List.getElem?_cons_succ]; rfl)
    go_simp
    refine (HW.out _).mono ?_
    rintro e V ⟨rfl, hbc⟩
    replace hr := hHeld.1.bl hbc
    replace hi := hHeld.2.1.bl hbc
    replace hb := below_bl rfl hHeld.2.2.2 hbc
    replace hq := hq.bl hbc
    replace hc2 := hc2.bl hbc
    clear hHeld
    go_simp
    refine hK.out _ _ ?_ (fun hHeld => ?_)
    · exact ⟨hr, hi, Or.inl hc2, hb⟩
    clear hK K
    refine wpAnyH_take (i := 9) (oi := ?oi143) (v := .tuple #[.agg c.cells, (.iface 89 (.int .i64 ((k : Int) + 1)))]) ?hi143 (by kernel_rfl) (by kernel_rfl) (by kernel_rfl) ?hQ143 ?hy143 (by assumption) ?rest143
    case hi143 => (simp only [List.getElem?_toArray, List.getElem?_cons_zero, List.getElem?_cons_succ]; rfl)
    case hQ143 => exact fun _ _ _ h => h
    case hy143 => exact Or.inl ⟨by rfl, by (intro w hSw; (try dsimp only at hSw); go_simp )⟩
    simp only [Act.put, List.setIfInBounds_toArray, List.set_cons_zero, List.set_cons_succ]
    refine wpAnyH_take (i := 10) (oi := ?oi144) (v := .agg c.cells) ?hi144 (by kernel_rfl) (by kernel_rfl) (by kernel_rfl) ?hQ144 ?hy144 (by assumption) ?rest144
    case hi144 => (simp only [List.getElem?_toArray, List.getElem?_cons_zero, List.getElem?_cons_succ]; rfl)
    case hQ144 => exact fun _ _ _ h => h
    case hy144 => exact Or.inl ⟨by rfl, by (intro w hSw; (try dsimp only at hSw); go_simp )⟩
    simp only [Act.put, List.setIfInBounds_toArray, List.set_cons_zero, List.set_cons_succ]
    refine wpAnyH_take (i := 11) (oi := ?oi145) (v := (.iface 89 (.int .i64 ((k : Int) + 1)))) ?hi145 (by kernel_rfl) (by kernel_rfl) (by kernel_rfl) ?hQ145 ?hy145 (by assumption) ?rest145
    case hi145 => (simp only [List.getElem?_toArray, List.getElem?_cons_zero, List.getElem?_cons_succ]; rfl)
    case hQ145 => exact fun _ _ _ h => h
    case hy145 => exact Or.inl ⟨by rfl, by (intro w hSw; (try dsimp only at hSw); go_simp )⟩
    simp only [Act.put, List.setIfInBounds_toArray, List.set_cons_zero, List.set_cons_succ]
    refine wpAnyH_ready (rs := [12]) (by kernel_rfl) (by simp) ?_
    refine AllReadyH.cons (o := ?oi146) ?hi146 (fun K hK => ?_) AllReadyH.nil
    case hi146 => (simp only [List.getElem?_toArray, List.getElem?_cons_zero, List.getElem?_cons_succ]; rfl)
    rw [if_pos (by rfl)]
    (with_reducible refine s_s (w.heap.size + 3) _ c hc2 ?_ ?_ ?_)
    · exact rfl
    · exact rfl
    intro W hnew ho
    replace hr := hr.only ho (by omega)
    replace hi := hi.only ho (by omega)
    replace hq := hq.only ho (by omega)
    replace hb := ho.bel _ _ (by omega) hb
    replace hc2 := hnew
    clear hHeld
    refine hK.out _ _ ?_ (fun hHeld => ?_)
    · exact ⟨hr, hi, Or.inr hc2, hb⟩
    clear hK K
    refine wpAnyH_take (i := 13) (oi := ?oi147) (v := (.iface 89 (.int .i64 ((k : Int) + 1)))) ?hi147 (by kernel_rfl) (by kernel_rfl) (by kernel_rfl) ?hQ147 ?hy147 (by assumption) ?rest147
    case hi147 => (simp only [List.getElem?_toArray, List.getElem?_cons_zero, List.getElem?_cons_succ]; rfl)
    case hQ147 => exact fun _ _ _ h => h
    case hy147 => exact Or.inl ⟨by rfl, by (intro w hSw; (try dsimp only at hSw); go_simp )⟩
    simp only [Act.put, List.setIfInBounds_toArray, List.set_cons_zero, List.set_cons_succ]
    refine wpAnyH_done (by kernel_rfl) ?_ _
    have qa : W.cell? ⟨w.heap.size + 1, 0, none⟩ = some (.int .i64 53) := hi.cell 0
    have qb : W.cell? ⟨w.heap.size + 1, 1, none⟩ = some (.int .i64 (rd : Nat)) := hi.cell 1
    have qc : W.cell? ⟨w.heap.size + 1, 2, none⟩ = some (.int .i64 (s1 : Nat)) := hi.cell 2
    go_wp2_with (first | ((with_reducible refine ld_h w.heap.size _ hr ?_ ?_); exact rfl) | ((with_reducible refine ld_c w.heap.size _ hr ?_ ?_); exact rfl) | ((with_reducible refine ld_s (w.heap.size + 3) _ hc2 ?_ ?_); exact rfl) | ((with_reducible refine ld_op (w.heap.size + 1) _ hi ?_ ?_); exact rfl) | ((with_reducible refine ld_rd (w.heap.size + 1) _ hi ?_ ?_); exact rfl) | ((with_reducible refine ld_rs1 (w.heap.size + 1) _ hi ?_ ?_); exact rfl) | ((with_reducible refine ld_csr (w.heap.size + 1) _ hi ?_ ?_); exact rfl) | ((with_reducible refine ld_x w.heap.size s1 _ h1 hr ?_ ?_); exact rfl) | (go_at_call 22; refine (HT.out _).mono ?_; rintro e W ⟨rfl, hbc⟩; replace hr := hr.bl hbc; replace hi := hi.bl hbc; replace hq := hq.bl hbc; replace hc2 := hc2.bl hbc; replace hb := below_bl rfl hb hbc) | ((with_reducible refine st_h (w.heap.size + 2) _ (trapH h 2 v) hq ?_ ?_ ?_); exact rfl; exact rfl; intro W hnew ho; replace hr := hr.only ho (by omega); replace hi := hi.only ho (by omega); replace hc2 := hc2.only ho (by omega); replace hq := hnew; replace hb := ho.bel _ _ (by omega) hb))
    refine bodyPost_ret (results_cell_row Tryd.results26 _ _ (w.heap.size + 2) _ _ _ _ rfl hq Tryd.underlying31 rfl size_hart) rfl ?_
    exact ⟨rfl, hb⟩
  case b140 =>
    go_simp
    refine (HM.out _ ?_ _).mono ?_
    · first | rfl | omega
    rintro e V ⟨rfl, rfl⟩
    go_simp
    refine hK.out _ _ ?_ (fun hHeld => ?_)
    · exact hHeld
    clear hK K
    refine wpAnyH_ready (rs := [0]) (by kernel_rfl) (by simp) ?_
    refine AllReadyH.cons (o := ?oi148) ?hi148 (fun K hK => ?_) AllReadyH.nil
    case hi148 => (simp only [List.getElem?_toArray, List.getElem?_cons_zero]; rfl)
    rw [if_pos (by rfl)]
    (with_reducible refine w_ld_s (w.heap.size + 3) h.c hc2 ?_ ?_)
    · exact rfl
    simp only [Act.put, List.setIfInBounds_toArray, List.set_cons_zero, List.set_cons_succ]
    refine hK.out _ _ ?_ (fun hHeld => ?_)
    · exact hHeld
    clear hK K
    refine wpAnyH_ready (rs := [8]) (by kernel_rfl) (by simp) ?_
    refine AllReadyH.cons (o := ?oi149) ?hi149 (fun K hK => ?_) AllReadyH.nil
    case hi149 => (simp only [List.getElem?_toArray, List.getElem?_cons_zero, List.getElem?_cons_succ]; rfl)
    go_simp
    refine (HW.out _).mono ?_
    rintro e V ⟨rfl, hbc⟩
    replace hr := hHeld.1.bl hbc
    replace hi := hHeld.2.1.bl hbc
    replace hb := below_bl rfl hHeld.2.2.2 hbc
    replace hq := hq.bl hbc
    replace hc2 := hc2.bl hbc
    clear hHeld
    go_simp
    refine hK.out _ _ ?_ (fun hHeld => ?_)
    · exact ⟨hr, hi, Or.inl hc2, hb⟩
    clear hK K
    refine wpAnyH_take (i := 9) (oi := ?oi150) (v := .tuple #[.agg c.cells, (.iface 89 (.int .i64 ((k : Int) + 1)))]) ?hi150 (by kernel_rfl) (by kernel_rfl) (by kernel_rfl) ?hQ150 ?hy150 (by assumption) ?rest150
    case hi150 => (simp only [List.getElem?_toArray, List.getElem?_cons_zero, List.getElem?_cons_succ]; rfl)
    case hQ150 => exact fun _ _ _ h => h
    case hy150 => exact Or.inl ⟨by rfl, by (intro w hSw; (try dsimp only at hSw); go_simp )⟩
    simp only [Act.put, List.setIfInBounds_toArray, List.set_cons_zero, List.set_cons_succ]
    refine wpAnyH_take (i := 10) (oi := ?oi151) (v := .agg c.cells) ?hi151 (by kernel_rfl) (by kernel_rfl) (by kernel_rfl) ?hQ151 ?hy151 (by assumption) ?rest151
    case hi151 => (simp only [List.getElem?_toArray, List.getElem?_cons_zero, List.getElem?_cons_succ]; rfl)
    case hQ151 => exact fun _ _ _ h => h
    case hy151 => exact Or.inl ⟨by rfl, by (intro w hSw; (try dsimp only at hSw); go_simp )⟩
    simp only [Act.put, List.setIfInBounds_toArray, List.set_cons_zero, List.set_cons_succ]
    refine wpAnyH_take (i := 11) (oi := ?oi152) (v := (.iface 89 (.int .i64 ((k : Int) + 1)))) ?hi152 (by kernel_rfl) (by kernel_rfl) (by kernel_rfl) ?hQ152 ?hy152 (by assumption) ?rest152
    case hi152 => (simp only [List.getElem?_toArray, List.getElem?_cons_zero, List.getElem?_cons_succ]; rfl)
    case hQ152 => exact fun _ _ _ h => h
    case hy152 => exact Or.inl ⟨by rfl, by (intro w hSw; (try dsimp only at hSw); go_simp )⟩
    simp only [Act.put, List.setIfInBounds_toArray, List.set_cons_zero, List.set_cons_succ]
    refine wpAnyH_ready (rs := [12]) (by kernel_rfl) (by simp) ?_
    refine AllReadyH.cons (o := ?oi153) ?hi153 (fun K hK => ?_) AllReadyH.nil
    case hi153 => (simp only [List.getElem?_toArray, List.getElem?_cons_zero, List.getElem?_cons_succ]; rfl)
    rw [if_pos (by rfl)]
    (with_reducible refine s_s (w.heap.size + 3) _ c hc2 ?_ ?_ ?_)
    · exact rfl
    · exact rfl
    intro W hnew ho
    replace hr := hr.only ho (by omega)
    replace hi := hi.only ho (by omega)
    replace hq := hq.only ho (by omega)
    replace hb := ho.bel _ _ (by omega) hb
    replace hc2 := hnew
    clear hHeld
    refine hK.out _ _ ?_ (fun hHeld => ?_)
    · exact ⟨hr, hi, Or.inr hc2, hb⟩
    clear hK K
    refine wpAnyH_take (i := 13) (oi := ?oi154) (v := (.iface 89 (.int .i64 ((k : Int) + 1)))) ?hi154 (by kernel_rfl) (by kernel_rfl) (by kernel_rfl) ?hQ154 ?hy154 (by assumption) ?rest154
    case hi154 => (simp only [List.getElem?_toArray, List.getElem?_cons_zero, List.getElem?_cons_succ]; rfl)
    case hQ154 => exact fun _ _ _ h => h
    case hy154 => exact Or.inl ⟨by rfl, by (intro w hSw; (try dsimp only at hSw); go_simp )⟩
    simp only [Act.put, List.setIfInBounds_toArray, List.set_cons_zero, List.set_cons_succ]
    refine wpAnyH_done (by kernel_rfl) ?_ _
    have qa : W.cell? ⟨w.heap.size + 1, 0, none⟩ = some (.int .i64 53) := hi.cell 0
    have qb : W.cell? ⟨w.heap.size + 1, 1, none⟩ = some (.int .i64 (rd : Nat)) := hi.cell 1
    have qc : W.cell? ⟨w.heap.size + 1, 2, none⟩ = some (.int .i64 (s1 : Nat)) := hi.cell 2
    go_wp2_with (first | ((with_reducible refine ld_h w.heap.size _ hr ?_ ?_); exact rfl) | ((with_reducible refine ld_c w.heap.size _ hr ?_ ?_); exact rfl) | ((with_reducible refine ld_s (w.heap.size + 3) _ hc2 ?_ ?_); exact rfl) | ((with_reducible refine ld_op (w.heap.size + 1) _ hi ?_ ?_); exact rfl) | ((with_reducible refine ld_rd (w.heap.size + 1) _ hi ?_ ?_); exact rfl) | ((with_reducible refine ld_rs1 (w.heap.size + 1) _ hi ?_ ?_); exact rfl) | ((with_reducible refine ld_csr (w.heap.size + 1) _ hi ?_ ?_); exact rfl) | ((with_reducible refine ld_x w.heap.size s1 _ h1 hr ?_ ?_); exact rfl) | (go_at_call 22; refine (HT.out _).mono ?_; rintro e W ⟨rfl, hbc⟩; replace hr := hr.bl hbc; replace hi := hi.bl hbc; replace hq := hq.bl hbc; replace hc2 := hc2.bl hbc; replace hb := below_bl rfl hb hbc) | ((with_reducible refine st_h (w.heap.size + 2) _ (trapH h 2 v) hq ?_ ?_ ?_); exact rfl; exact rfl; intro W hnew ho; replace hr := hr.only ho (by omega); replace hi := hi.only ho (by omega); replace hc2 := hc2.only ho (by omega); replace hq := hnew; replace hb := ho.bel _ _ (by omega) hb))
    refine bodyPost_ret (results_cell_row Tryd.results26 _ _ (w.heap.size + 2) _ _ _ _ rfl hq Tryd.underlying31 rfl size_hart) rfl ?_
    exact ⟨rfl, hb⟩

set_option maxHeartbeats 2000000 in
theorem control_53rC (h : H) (ok : h.Ok) (rd s1 s2 : Nat) (im cs : Int) (hrd : rd < 32) (h1 : s1 < 32) (v l : Nat) (hl : l < 4294967296) (h0 : s1 ≠ 0) (old : Nat) (hold : old < 4294967296) (hR : readN h.c cs l = some old) (c : S8) (hc : c.Ok) (hW : writeN h.c cs (mixN 53 old (h.x s1)) = (c, 0)) (w : World) :
    Calls Tryd.prog 26 #[.agg h.cells, .agg (I6.cells ⟨53, (rd : Nat), (s1 : Nat), (s2 : Nat), im, cs⟩), .int .u32 v, .int .u32 l] w fun e w' => e = .returned (.agg (nextH (writeH (withC h c) rd old)).cells) ∧ Below w.heap.size w w' := by
  have b1 : (0 : Int) ≤ s1 := by omega
  have b2 : (s1 : Int) < 32 := by omega
  have t2 : ((s1 : Int) != 0) = true := by simp; omega
  clear h0
  have HR := hide (fun w => cs_read_bl h.c ok.c cs l hl w)
  rw [hR] at HR
  simp only [readV] at HR
  clear hR
  have HM : Hid (∀ z : Int, z = (((h.x s1) : Nat) : Int) → ∀ w, Calls Tryd.prog 54 #[.int .i64 53, .int .u32 old, .int .u32 z] w fun e w' => e = .returned (.int .u32 ((mixN 53 old (h.x s1)) : Nat)) ∧ w' = w) := hide (fun z hz w => by rw [hz]; exact mixed_53 old (h.x s1) hold (ok.x s1) w)
  have HW := hide (fun w => cs_write_bl h.c ok.c cs (mixN 53 old (h.x s1)) (mixN_lt 53 hold (ok.x s1)) w)
  rw [hW] at HW
  simp only [errW] at HW
  clear hW
  generalize (mixN 53 old (h.x s1)) = M at HM HW
  have ok' : H.Ok (withC h c) := ⟨ok.pc, ok.x, hc⟩
  have HWr := hide (fun w => write_any (withC h c) rd hrd old w)
  have HN := hide (fun w => next_any _ (writeH_ok ok' rd hold) w)
  go_enter Tryd.func26, Tryd.ntmps26
  go_wp2_with (first | ((with_reducible refine bx_h w.heap.size h ?_ ?_ ?_); exact rfl; exact rfl; intro W hr hb hz) | ((with_reducible refine bx_i (w.heap.size + 1) ⟨53, (rd : Nat), (s1 : Nat), (s2 : Nat), im, cs⟩ ?_ ?_ ?_); exact hz.out; exact rfl; intro W hi hb' hz'; replace hr := hr.bl (hz.out ▸ hb'); replace hb := hb.trans (hb'.mono (by omega)); replace hz := hz') | ((with_reducible refine al_h (w.heap.size + 2) ?_ ?_); exact hz.out; intro W hq hb' hz'; replace hr := hr.bl (hz.out ▸ hb'); replace hi := hi.bl (hz.out ▸ hb'); replace hb := hb.trans (hb'.mono (by omega)); replace hz := hz'; have qa : W.cell? ⟨w.heap.size + 1, 0, none⟩ = some (.int .i64 53) := hi.cell 0; have qb : W.cell? ⟨w.heap.size + 1, 1, none⟩ = some (.int .i64 (rd : Nat)) := hi.cell 1; have qc : W.cell? ⟨w.heap.size + 1, 2, none⟩ = some (.int .i64 (s1 : Nat)) := hi.cell 2) | ((with_reducible refine al_c (w.heap.size + 3) ?_ ?_); exact hz.out; intro W hc2 hb' hz'; replace hr := hr.bl (hz.out ▸ hb'); replace hi := hi.bl (hz.out ▸ hb'); replace hq := hq.bl (hz.out ▸ hb'); replace hb := hb.trans (hb'.mono (by omega)); replace hz := hz'; have qa : W.cell? ⟨w.heap.size + 1, 0, none⟩ = some (.int .i64 53) := hi.cell 0; have qb : W.cell? ⟨w.heap.size + 1, 1, none⟩ = some (.int .i64 (rd : Nat)) := hi.cell 1; have qc : W.cell? ⟨w.heap.size + 1, 2, none⟩ = some (.int .i64 (s1 : Nat)) := hi.cell 2) | ((with_reducible refine st_s (w.heap.size + 3) _ h.c hc2 ?_ ?_ ?_); exact rfl; exact rfl; intro W hnew ho; replace hr := hr.only ho (by omega); replace hi := hi.only ho (by omega); replace hq := hq.only ho (by omega); replace hc2 := hnew; replace hb := ho.bel _ _ (by omega) hb; have qa : W.cell? ⟨w.heap.size + 1, 0, none⟩ = some (.int .i64 53) := hi.cell 0; have qb : W.cell? ⟨w.heap.size + 1, 1, none⟩ = some (.int .i64 (rd : Nat)) := hi.cell 1; have qc : W.cell? ⟨w.heap.size + 1, 2, none⟩ = some (.int .i64 (s1 : Nat)) := hi.cell 2) | (go_at_call 52; refine (HR.out _).mono ?_; rintro e W ⟨rfl, hbc⟩; replace hr := hr.bl hbc; replace hi := hi.bl hbc; replace hq := hq.bl hbc; replace hc2 := hc2.bl hbc; replace hb := below_bl rfl hb hbc; have qa : W.cell? ⟨w.heap.size + 1, 0, none⟩ = some (.int .i64 53) := hi.cell 0; have qb : W.cell? ⟨w.heap.size + 1, 1, none⟩ = some (.int .i64 (rd : Nat)) := hi.cell 1; have qc : W.cell? ⟨w.heap.size + 1, 2, none⟩ = some (.int .i64 (s1 : Nat)) := hi.cell 2) | ((with_reducible refine ld_h w.heap.size _ hr ?_ ?_); exact rfl) | ((with_reducible refine ld_c w.heap.size _ hr ?_ ?_); exact rfl) | ((with_reducible refine ld_s (w.heap.size + 3) _ hc2 ?_ ?_); exact rfl) | ((with_reducible refine ld_op (w.heap.size + 1) _ hi ?_ ?_); exact rfl) | ((with_reducible refine ld_rd (w.heap.size + 1) _ hi ?_ ?_); exact rfl) | ((with_reducible refine ld_rs1 (w.heap.size + 1) _ hi ?_ ?_); exact rfl) | ((with_reducible refine ld_csr (w.heap.size + 1) _ hi ?_ ?_); exact rfl) | ((with_reducible refine ld_x w.heap.size s1 _ h1 hr ?_ ?_); exact rfl))
  refine wp_region_held_drew (S := (fun V => RowAt V w.heap.size h.cells 31 ∧ RowAt V (w.heap.size + 1) (I6.cells ⟨53, (rd : Nat), (s1 : Nat), (s2 : Nat), im, cs⟩) 61 ∧ (RowAt V (w.heap.size + 3) h.c.cells 29 ∨ RowAt V (w.heap.size + 3) c.cells 29) ∧ Below w.heap.size w V)) (by kernel_rfl) ?_ (fun hHeld => ?_)
  · exact ⟨hr.dr, hi.dr, Or.inl hc2.dr, hb.drew⟩
  replace hq := hq.dr
  replace hc2 := hc2.dr
  refine wpAnyH_take (i := 1) (oi := ?oi155) (v := .pointer (some ⟨w.heap.size + 1, 5, none⟩)) ?hi155 (by kernel_rfl) (by kernel_rfl) (by kernel_rfl) ?hQ155 ?hy155 (by assumption) ?rest155
  case hi155 => (simp only [List.getElem?_toArray, List.getElem?_cons_zero, List.getElem?_cons_succ]; rfl)
  case hQ155 => exact fun _ _ _ h => h
  case hy155 => exact Or.inl ⟨by rfl, by (intro w hSw; (try dsimp only at hSw); go_simp )⟩
  simp only [Act.put, List.setIfInBounds_toArray, List.set_cons_zero, List.set_cons_succ]
  refine wpAnyH_take (i := 2) (oi := ?oi156) (v := .int .i64 cs) ?hi156 (by kernel_rfl) (by kernel_rfl) (by kernel_rfl) ?hQ156 ?hy156 (by assumption) ?rest156
  case hi156 => (simp only [List.getElem?_toArray, List.getElem?_cons_zero, List.getElem?_cons_succ]; rfl)
  case hQ156 => exact fun _ _ _ h => h
  case hy156 => exact y_int (w.heap.size + 1) 5 _ (fun V hV => (hV.2.1.cell 5).trans rfl) rfl
  simp only [Act.put, List.setIfInBounds_toArray, List.set_cons_zero, List.set_cons_succ]
  refine wpAnyH_take (i := 3) (oi := ?oi157) (v := .pointer (some ⟨w.heap.size + 1, 0, none⟩)) ?hi157 (by kernel_rfl) (by kernel_rfl) (by kernel_rfl) ?hQ157 ?hy157 (by assumption) ?rest157
  case hi157 => (simp only [List.getElem?_toArray, List.getElem?_cons_zero, List.getElem?_cons_succ]; rfl)
  case hQ157 => exact fun _ _ _ h => h
  case hy157 => exact Or.inl ⟨by rfl, by (intro w hSw; (try dsimp only at hSw); go_simp )⟩
  simp only [Act.put, List.setIfInBounds_toArray, List.set_cons_zero, List.set_cons_succ]
  refine wpAnyH_take (i := 4) (oi := ?oi158) (v := .int .i64 53) ?hi158 (by kernel_rfl) (by kernel_rfl) (by kernel_rfl) ?hQ158 ?hy158 (by assumption) ?rest158
  case hi158 => (simp only [List.getElem?_toArray, List.getElem?_cons_zero, List.getElem?_cons_succ]; rfl)
  case hQ158 => exact fun _ _ _ h => h
  case hy158 => exact y_int (w.heap.size + 1) 0 _ (fun V hV => (hV.2.1.cell 0).trans rfl) rfl
  simp only [Act.put, List.setIfInBounds_toArray, List.set_cons_zero, List.set_cons_succ]
  refine wpAnyH_take (i := 5) (oi := ?oi159) (v := .int .u32 (old : Nat)) ?hi159 (by kernel_rfl) (by kernel_rfl) (by kernel_rfl) ?hQ159 ?hy159 (by assumption) ?rest159
  case hi159 => (simp only [List.getElem?_toArray, List.getElem?_cons_zero, List.getElem?_cons_succ]; rfl)
  case hQ159 => exact fun _ _ _ h => h
  case hy159 => exact Or.inl ⟨by rfl, by (intro w hSw; (try dsimp only at hSw); go_simp )⟩
  simp only [Act.put, List.setIfInBounds_toArray, List.set_cons_zero, List.set_cons_succ]
  refine wpAnyH_take (i := 6) (oi := ?oi160) (v := .int .u32 ((h.x s1) : Nat)) ?hi160 (by kernel_rfl) (by kernel_rfl) (by kernel_rfl) ?hQ160 ?hy160 (by assumption) ?rest160
  case hi160 => (simp only [List.getElem?_toArray, List.getElem?_cons_zero, List.getElem?_cons_succ]; rfl)
  case hQ160 => exact fun _ _ _ h => h
  case hy160 => exact Or.inl ⟨by rfl, by (intro w hSw; (try dsimp only at hSw); go_simp <;> omega)⟩
  simp only [Act.put, List.setIfInBounds_toArray, List.set_cons_zero, List.set_cons_succ]
  refine wpAnyH_ready (rs := [0, 7]) (by kernel_rfl) (by simp) ?_
  refine AllReadyH.cons (o := ?oi161) ?hi161 (fun K hK => ?b161) (AllReadyH.cons (o := ?oi162) ?hi162 (fun K hK => ?b162) AllReadyH.nil)
  case hi161 => (simp only [List.getElem?_toArray, List.getElem?_cons_zero]; rfl)
  case hi162 => (simp only [List.getElem?_toArray, List.getElem?_cons_zero, List.getElem?_cons_succ]; rfl)
  case b161 =>
    rw [if_pos (by rfl)]
    (with_reducible refine w_ld_s (w.heap.size + 3) h.c hc2 ?_ ?_)
    · exact rfl
    simp only [Act.put, List.setIfInBounds_toArray, List.set_cons_zero, List.set_cons_succ]
    refine hK.out _ _ ?_ (fun hHeld => ?_)
    · exact hHeld
    clear hK K
    refine wpAnyH_ready (rs := [7]) (by kernel_rfl) (by simp) ?_
    refine AllReadyH.cons (o := ?oi163) ?hi163 (fun K hK => ?_) AllReadyH.nil
    case hi163 => (simp only [List.getElem?_toArray, List.getElem?_cons_zero, List.getElem?_cons_succ]; rfl)
    go_simp
    refine (HM.out _ ?_ _).mono ?_
    · first | rfl | omega
    rintro e V ⟨rfl, rfl⟩
    go_simp
    refine hK.out _ _ ?_ (fun hHeld => ?_)
    · exact hHeld
    clear hK K
    refine wpAnyH_ready (rs := [8]) (by kernel_rfl) (by simp) ?_
    refine AllReadyH.cons (o := ?oi164) ?hi164 (fun K hK => ?_) AllReadyH.nil
    case hi164 => (simp only [List.getElem?_toArray, List.getElem?_cons_zero, List.getElem?_cons_succ]; rfl)
    go_simp
    refine (HW.out _).mono ?_
    rintro e V ⟨rfl, hbc⟩
    replace hr := hHeld.1.bl hbc
    replace hi := hHeld.2.1.bl hbc
    replace hb := below_bl rfl hHeld.2.2.2 hbc
    replace hq := hq.bl hbc
    replace hc2 := hc2.bl hbc
    clear hHeld
    go_simp
    refine hK.out _ _ ?_ (fun hHeld => ?_)
    · exact ⟨hr, hi, Or.inl hc2, hb⟩
    clear hK K
    refine wpAnyH_take (i := 9) (oi := ?oi165) (v := .tuple #[.agg c.cells, .nilIface]) ?hi165 (by kernel_rfl) (by kernel_rfl) (by kernel_rfl) ?hQ165 ?hy165 (by assumption) ?rest165
    case hi165 => (simp only [List.getElem?_toArray, List.getElem?_cons_zero, List.getElem?_cons_succ]; rfl)
    case hQ165 => exact fun _ _ _ h => h
    case hy165 => exact Or.inl ⟨by rfl, by (intro w hSw; (try dsimp only at hSw); go_simp )⟩
    simp only [Act.put, List.setIfInBounds_toArray, List.set_cons_zero, List.set_cons_succ]
    refine wpAnyH_take (i := 10) (oi := ?oi166) (v := .agg c.cells) ?hi166 (by kernel_rfl) (by kernel_rfl) (by kernel_rfl) ?hQ166 ?hy166 (by assumption) ?rest166
    case hi166 => (simp only [List.getElem?_toArray, List.getElem?_cons_zero, List.getElem?_cons_succ]; rfl)
    case hQ166 => exact fun _ _ _ h => h
    case hy166 => exact Or.inl ⟨by rfl, by (intro w hSw; (try dsimp only at hSw); go_simp )⟩
    simp only [Act.put, List.setIfInBounds_toArray, List.set_cons_zero, List.set_cons_succ]
    refine wpAnyH_take (i := 11) (oi := ?oi167) (v := .nilIface) ?hi167 (by kernel_rfl) (by kernel_rfl) (by kernel_rfl) ?hQ167 ?hy167 (by assumption) ?rest167
    case hi167 => (simp only [List.getElem?_toArray, List.getElem?_cons_zero, List.getElem?_cons_succ]; rfl)
    case hQ167 => exact fun _ _ _ h => h
    case hy167 => exact Or.inl ⟨by rfl, by (intro w hSw; (try dsimp only at hSw); go_simp )⟩
    simp only [Act.put, List.setIfInBounds_toArray, List.set_cons_zero, List.set_cons_succ]
    refine wpAnyH_ready (rs := [12]) (by kernel_rfl) (by simp) ?_
    refine AllReadyH.cons (o := ?oi168) ?hi168 (fun K hK => ?_) AllReadyH.nil
    case hi168 => (simp only [List.getElem?_toArray, List.getElem?_cons_zero, List.getElem?_cons_succ]; rfl)
    rw [if_pos (by rfl)]
    (with_reducible refine s_s (w.heap.size + 3) _ c hc2 ?_ ?_ ?_)
    · exact rfl
    · exact rfl
    intro W hnew ho
    replace hr := hr.only ho (by omega)
    replace hi := hi.only ho (by omega)
    replace hq := hq.only ho (by omega)
    replace hb := ho.bel _ _ (by omega) hb
    replace hc2 := hnew
    clear hHeld
    refine hK.out _ _ ?_ (fun hHeld => ?_)
    · exact ⟨hr, hi, Or.inr hc2, hb⟩
    clear hK K
    refine wpAnyH_take (i := 13) (oi := ?oi169) (v := .nilIface) ?hi169 (by kernel_rfl) (by kernel_rfl) (by kernel_rfl) ?hQ169 ?hy169 (by assumption) ?rest169
    case hi169 => (simp only [List.getElem?_toArray, List.getElem?_cons_zero, List.getElem?_cons_succ]; rfl)
    case hQ169 => exact fun _ _ _ h => h
    case hy169 => exact Or.inl ⟨by rfl, by (intro w hSw; (try dsimp only at hSw); go_simp )⟩
    simp only [Act.put, List.setIfInBounds_toArray, List.set_cons_zero, List.set_cons_succ]
    refine wpAnyH_done (by kernel_rfl) ?_ _
    have qa : W.cell? ⟨w.heap.size + 1, 0, none⟩ = some (.int .i64 53) := hi.cell 0
    have qb : W.cell? ⟨w.heap.size + 1, 1, none⟩ = some (.int .i64 (rd : Nat)) := hi.cell 1
    have qc : W.cell? ⟨w.heap.size + 1, 2, none⟩ = some (.int .i64 (s1 : Nat)) := hi.cell 2
    go_wp2_with (first | ((with_reducible refine ld_h w.heap.size _ hr ?_ ?_); exact rfl) | ((with_reducible refine ld_c w.heap.size _ hr ?_ ?_); exact rfl) | ((with_reducible refine ld_s (w.heap.size + 3) _ hc2 ?_ ?_); exact rfl) | ((with_reducible refine ld_op (w.heap.size + 1) _ hi ?_ ?_); exact rfl) | ((with_reducible refine ld_rd (w.heap.size + 1) _ hi ?_ ?_); exact rfl) | ((with_reducible refine ld_rs1 (w.heap.size + 1) _ hi ?_ ?_); exact rfl) | ((with_reducible refine ld_csr (w.heap.size + 1) _ hi ?_ ?_); exact rfl) | ((with_reducible refine ld_x w.heap.size s1 _ h1 hr ?_ ?_); exact rfl) | ((with_reducible refine st_c w.heap.size _ c hr ?_ ?_ ?_); exact rfl; exact rfl; intro W hnew ho; replace hi := hi.only ho (by omega); replace hq := hq.only ho (by omega); replace hc2 := hc2.only ho (by omega); replace hr := hnew; replace hb := ho.bel _ _ (by omega) hb) | (go_at_call 46; refine (HWr.out _).mono ?_; rintro e W ⟨rfl, hbc⟩; replace hr := hr.bl hbc; replace hi := hi.bl hbc; replace hq := hq.bl hbc; replace hc2 := hc2.bl hbc; replace hb := below_bl rfl hb hbc) | (go_at_call 45; refine (HN.out _).mono ?_; rintro e W ⟨rfl, hbc⟩; replace hr := hr.bl hbc; replace hi := hi.bl hbc; replace hq := hq.bl hbc; replace hc2 := hc2.bl hbc; replace hb := below_bl rfl hb hbc) | ((with_reducible refine st_h (w.heap.size + 2) _ (nextH (writeH (withC h c) rd old)) hq ?_ ?_ ?_); exact rfl; exact rfl; intro W hnew ho; replace hr := hr.only ho (by omega); replace hi := hi.only ho (by omega); replace hc2 := hc2.only ho (by omega); replace hq := hnew; replace hb := ho.bel _ _ (by omega) hb))
    refine bodyPost_ret (results_cell_row Tryd.results26 _ _ (w.heap.size + 2) _ _ _ _ rfl hq Tryd.underlying31 rfl size_hart) rfl ?_
    exact ⟨rfl, hb⟩
  case b162 =>
    go_simp
    refine (HM.out _ ?_ _).mono ?_
    · first | rfl | omega
    rintro e V ⟨rfl, rfl⟩
    go_simp
    refine hK.out _ _ ?_ (fun hHeld => ?_)
    · exact hHeld
    clear hK K
    refine wpAnyH_ready (rs := [0]) (by kernel_rfl) (by simp) ?_
    refine AllReadyH.cons (o := ?oi170) ?hi170 (fun K hK => ?_) AllReadyH.nil
    case hi170 => (simp only [List.getElem?_toArray, List.getElem?_cons_zero]; rfl)
    rw [if_pos (by rfl)]
    (with_reducible refine w_ld_s (w.heap.size + 3) h.c hc2 ?_ ?_)
    · exact rfl
    simp only [Act.put, List.setIfInBounds_toArray, List.set_cons_zero, List.set_cons_succ]
    refine hK.out _ _ ?_ (fun hHeld => ?_)
    · exact hHeld
    clear hK K
    refine wpAnyH_ready (rs := [8]) (by kernel_rfl) (by simp) ?_
    refine AllReadyH.cons (o := ?oi171) ?hi171 (fun K hK => ?_) AllReadyH.nil
    case hi171 => (simp only [List.getElem?_toArray, List.getElem?_cons_zero, List.getElem?_cons_succ]; rfl)
    go_simp
    refine (HW.out _).mono ?_
    rintro e V ⟨rfl, hbc⟩
    replace hr := hHeld.1.bl hbc
    replace hi := hHeld.2.1.bl hbc
    replace hb := below_bl rfl hHeld.2.2.2 hbc
    replace hq := hq.bl hbc
    replace hc2 := hc2.bl hbc
    clear hHeld
    go_simp
    refine hK.out _ _ ?_ (fun hHeld => ?_)
    · exact ⟨hr, hi, Or.inl hc2, hb⟩
    clear hK K
    refine wpAnyH_take (i := 9) (oi := ?oi172) (v := .tuple #[.agg c.cells, .nilIface]) ?hi172 (by kernel_rfl) (by kernel_rfl) (by kernel_rfl) ?hQ172 ?hy172 (by assumption) ?rest172
    case hi172 => (simp only [List.getElem?_toArray, List.getElem?_cons_zero, List.getElem?_cons_succ]; rfl)
    case hQ172 => exact fun _ _ _ h => h
    case hy172 => exact Or.inl ⟨by rfl, by (intro w hSw; (try dsimp only at hSw); go_simp )⟩
    simp only [Act.put, List.setIfInBounds_toArray, List.set_cons_zero, List.set_cons_succ]
    refine wpAnyH_take (i := 10) (oi := ?oi173) (v := .agg c.cells) ?hi173 (by kernel_rfl) (by kernel_rfl) (by kernel_rfl) ?hQ173 ?hy173 (by assumption) ?rest173
    case hi173 => (simp only [List.getElem?_toArray, List.getElem?_cons_zero, List.getElem?_cons_succ]; rfl)
    case hQ173 => exact fun _ _ _ h => h
    case hy173 => exact Or.inl ⟨by rfl, by (intro w hSw; (try dsimp only at hSw); go_simp )⟩
    simp only [Act.put, List.setIfInBounds_toArray, List.set_cons_zero, List.set_cons_succ]
    refine wpAnyH_take (i := 11) (oi := ?oi174) (v := .nilIface) ?hi174 (by kernel_rfl) (by kernel_rfl) (by kernel_rfl) ?hQ174 ?hy174 (by assumption) ?rest174
    case hi174 => (simp only [List.getElem?_toArray, List.getElem?_cons_zero, List.getElem?_cons_succ]; rfl)
    case hQ174 => exact fun _ _ _ h => h
    case hy174 => exact Or.inl ⟨by rfl, by (intro w hSw; (try dsimp only at hSw); go_simp )⟩
    simp only [Act.put, List.setIfInBounds_toArray, List.set_cons_zero, List.set_cons_succ]
    refine wpAnyH_ready (rs := [12]) (by kernel_rfl) (by simp) ?_
    refine AllReadyH.cons (o := ?oi175) ?hi175 (fun K hK => ?_) AllReadyH.nil
    case hi175 => (simp only [List.getElem?_toArray, List.getElem?_cons_zero, List.getElem?_cons_succ]; rfl)
    rw [if_pos (by rfl)]
    (with_reducible refine s_s (w.heap.size + 3) _ c hc2 ?_ ?_ ?_)
    · exact rfl
    · exact rfl
    intro W hnew ho
    replace hr := hr.only ho (by omega)
    replace hi := hi.only ho (by omega)
    replace hq := hq.only ho (by omega)
    replace hb := ho.bel _ _ (by omega) hb
    replace hc2 := hnew
    clear hHeld
    refine hK.out _ _ ?_ (fun hHeld => ?_)
    · exact ⟨hr, hi, Or.inr hc2, hb⟩
    clear hK K
    refine wpAnyH_take (i := 13) (oi := ?oi176) (v := .nilIface) ?hi176 (by kernel_rfl) (by kernel_rfl) (by kernel_rfl) ?hQ176 ?hy176 (by assumption) ?rest176
    case hi176 => (simp only [List.getElem?_toArray, List.getElem?_cons_zero, List.getElem?_cons_succ]; rfl)
    case hQ176 => exact fun _ _ _ h => h
    case hy176 => exact Or.inl ⟨by rfl, by (intro w hSw; (try dsimp only at hSw); go_simp )⟩
    simp only [Act.put, List.setIfInBounds_toArray, List.set_cons_zero, List.set_cons_succ]
    refine wpAnyH_done (by kernel_rfl) ?_ _
    have qa : W.cell? ⟨w.heap.size + 1, 0, none⟩ = some (.int .i64 53) := hi.cell 0
    have qb : W.cell? ⟨w.heap.size + 1, 1, none⟩ = some (.int .i64 (rd : Nat)) := hi.cell 1
    have qc : W.cell? ⟨w.heap.size + 1, 2, none⟩ = some (.int .i64 (s1 : Nat)) := hi.cell 2
    go_wp2_with (first | ((with_reducible refine ld_h w.heap.size _ hr ?_ ?_); exact rfl) | ((with_reducible refine ld_c w.heap.size _ hr ?_ ?_); exact rfl) | ((with_reducible refine ld_s (w.heap.size + 3) _ hc2 ?_ ?_); exact rfl) | ((with_reducible refine ld_op (w.heap.size + 1) _ hi ?_ ?_); exact rfl) | ((with_reducible refine ld_rd (w.heap.size + 1) _ hi ?_ ?_); exact rfl) | ((with_reducible refine ld_rs1 (w.heap.size + 1) _ hi ?_ ?_); exact rfl) | ((with_reducible refine ld_csr (w.heap.size + 1) _ hi ?_ ?_); exact rfl) | ((with_reducible refine ld_x w.heap.size s1 _ h1 hr ?_ ?_); exact rfl) | ((with_reducible refine st_c w.heap.size _ c hr ?_ ?_ ?_); exact rfl; exact rfl; intro W hnew ho; replace hi := hi.only ho (by omega); replace hq := hq.only ho (by omega); replace hc2 := hc2.only ho (by omega); replace hr := hnew; replace hb := ho.bel _ _ (by omega) hb) | (go_at_call 46; refine (HWr.out _).mono ?_; rintro e W ⟨rfl, hbc⟩; replace hr := hr.bl hbc; replace hi := hi.bl hbc; replace hq := hq.bl hbc; replace hc2 := hc2.bl hbc; replace hb := below_bl rfl hb hbc) | (go_at_call 45; refine (HN.out _).mono ?_; rintro e W ⟨rfl, hbc⟩; replace hr := hr.bl hbc; replace hi := hi.bl hbc; replace hq := hq.bl hbc; replace hc2 := hc2.bl hbc; replace hb := below_bl rfl hb hbc) | ((with_reducible refine st_h (w.heap.size + 2) _ (nextH (writeH (withC h c) rd old)) hq ?_ ?_ ?_); exact rfl; exact rfl; intro W hnew ho; replace hr := hr.only ho (by omega); replace hi := hi.only ho (by omega); replace hc2 := hc2.only ho (by omega); replace hq := hnew; replace hb := ho.bel _ _ (by omega) hb))
    refine bodyPost_ret (results_cell_row Tryd.results26 _ _ (w.heap.size + 2) _ _ _ _ rfl hq Tryd.underlying31 rfl size_hart) rfl ?_
    exact ⟨rfl, hb⟩

set_option maxHeartbeats 2000000 in
theorem control_53rD (h : H) (ok : h.Ok) (rd s1 s2 : Nat) (im cs : Int) (hrd : rd < 32) (h1 : s1 < 32) (v l : Nat) (hl : l < 4294967296) (h0 : s1 = 0) (old : Nat) (hold : old < 4294967296) (hR : readN h.c cs l = some old) (w : World) :
    Calls Tryd.prog 26 #[.agg h.cells, .agg (I6.cells ⟨53, (rd : Nat), (s1 : Nat), (s2 : Nat), im, cs⟩), .int .u32 v, .int .u32 l] w fun e w' => e = .returned (.agg (nextH (writeH h rd old)).cells) ∧ Below w.heap.size w w' := by
  have b1 : (0 : Int) ≤ s1 := by omega
  have b2 : (s1 : Int) < 32 := by omega
  have t2 : ((s1 : Int) != 0) = false := by simp; omega
  clear h0
  have HR := hide (fun w => cs_read_bl h.c ok.c cs l hl w)
  rw [hR] at HR
  simp only [readV] at HR
  clear hR
  have ok' : H.Ok h := ok
  have HWr := hide (fun w => write_any h rd hrd old w)
  have HN := hide (fun w => next_any _ (writeH_ok ok' rd hold) w)
  go_enter Tryd.func26, Tryd.ntmps26
  go_wp2_with (first | ((with_reducible refine bx_h w.heap.size h ?_ ?_ ?_); exact rfl; exact rfl; intro W hr hb hz) | ((with_reducible refine bx_i (w.heap.size + 1) ⟨53, (rd : Nat), (s1 : Nat), (s2 : Nat), im, cs⟩ ?_ ?_ ?_); exact hz.out; exact rfl; intro W hi hb' hz'; replace hr := hr.bl (hz.out ▸ hb'); replace hb := hb.trans (hb'.mono (by omega)); replace hz := hz') | ((with_reducible refine al_h (w.heap.size + 2) ?_ ?_); exact hz.out; intro W hq hb' hz'; replace hr := hr.bl (hz.out ▸ hb'); replace hi := hi.bl (hz.out ▸ hb'); replace hb := hb.trans (hb'.mono (by omega)); replace hz := hz'; have qa : W.cell? ⟨w.heap.size + 1, 0, none⟩ = some (.int .i64 53) := hi.cell 0; have qb : W.cell? ⟨w.heap.size + 1, 1, none⟩ = some (.int .i64 (rd : Nat)) := hi.cell 1; have qc : W.cell? ⟨w.heap.size + 1, 2, none⟩ = some (.int .i64 (s1 : Nat)) := hi.cell 2) | ((with_reducible refine al_c (w.heap.size + 3) ?_ ?_); exact hz.out; intro W hc2 hb' hz'; replace hr := hr.bl (hz.out ▸ hb'); replace hi := hi.bl (hz.out ▸ hb'); replace hq := hq.bl (hz.out ▸ hb'); replace hb := hb.trans (hb'.mono (by omega)); replace hz := hz'; have qa : W.cell? ⟨w.heap.size + 1, 0, none⟩ = some (.int .i64 53) := hi.cell 0; have qb : W.cell? ⟨w.heap.size + 1, 1, none⟩ = some (.int .i64 (rd : Nat)) := hi.cell 1; have qc : W.cell? ⟨w.heap.size + 1, 2, none⟩ = some (.int .i64 (s1 : Nat)) := hi.cell 2) | ((with_reducible refine st_s (w.heap.size + 3) _ h.c hc2 ?_ ?_ ?_); exact rfl; exact rfl; intro W hnew ho; replace hr := hr.only ho (by omega); replace hi := hi.only ho (by omega); replace hq := hq.only ho (by omega); replace hc2 := hnew; replace hb := ho.bel _ _ (by omega) hb; have qa : W.cell? ⟨w.heap.size + 1, 0, none⟩ = some (.int .i64 53) := hi.cell 0; have qb : W.cell? ⟨w.heap.size + 1, 1, none⟩ = some (.int .i64 (rd : Nat)) := hi.cell 1; have qc : W.cell? ⟨w.heap.size + 1, 2, none⟩ = some (.int .i64 (s1 : Nat)) := hi.cell 2) | (go_at_call 52; refine (HR.out _).mono ?_; rintro e W ⟨rfl, hbc⟩; replace hr := hr.bl hbc; replace hi := hi.bl hbc; replace hq := hq.bl hbc; replace hc2 := hc2.bl hbc; replace hb := below_bl rfl hb hbc; have qa : W.cell? ⟨w.heap.size + 1, 0, none⟩ = some (.int .i64 53) := hi.cell 0; have qb : W.cell? ⟨w.heap.size + 1, 1, none⟩ = some (.int .i64 (rd : Nat)) := hi.cell 1; have qc : W.cell? ⟨w.heap.size + 1, 2, none⟩ = some (.int .i64 (s1 : Nat)) := hi.cell 2) | ((with_reducible refine ld_h w.heap.size _ hr ?_ ?_); exact rfl) | ((with_reducible refine ld_c w.heap.size _ hr ?_ ?_); exact rfl) | ((with_reducible refine ld_s (w.heap.size + 3) _ hc2 ?_ ?_); exact rfl) | ((with_reducible refine ld_op (w.heap.size + 1) _ hi ?_ ?_); exact rfl) | ((with_reducible refine ld_rd (w.heap.size + 1) _ hi ?_ ?_); exact rfl) | ((with_reducible refine ld_rs1 (w.heap.size + 1) _ hi ?_ ?_); exact rfl) | ((with_reducible refine ld_csr (w.heap.size + 1) _ hi ?_ ?_); exact rfl) | ((with_reducible refine ld_x w.heap.size s1 _ h1 hr ?_ ?_); exact rfl) | ((with_reducible refine st_c w.heap.size _ h.c hr ?_ ?_ ?_); exact rfl; exact rfl; intro W hnew ho; replace hi := hi.only ho (by omega); replace hq := hq.only ho (by omega); replace hc2 := hc2.only ho (by omega); replace hr := hnew; replace hb := ho.bel _ _ (by omega) hb) | (go_at_call 46; refine (HWr.out _).mono ?_; rintro e W ⟨rfl, hbc⟩; replace hr := hr.bl hbc; replace hi := hi.bl hbc; replace hq := hq.bl hbc; replace hc2 := hc2.bl hbc; replace hb := below_bl rfl hb hbc) | (go_at_call 45; refine (HN.out _).mono ?_; rintro e W ⟨rfl, hbc⟩; replace hr := hr.bl hbc; replace hi := hi.bl hbc; replace hq := hq.bl hbc; replace hc2 := hc2.bl hbc; replace hb := below_bl rfl hb hbc) | ((with_reducible refine st_h (w.heap.size + 2) _ (nextH (writeH h rd old)) hq ?_ ?_ ?_); exact rfl; exact rfl; intro W hnew ho; replace hr := hr.only ho (by omega); replace hi := hi.only ho (by omega); replace hc2 := hc2.only ho (by omega); replace hq := hnew; replace hb := ho.bel _ _ (by omega) hb))
  refine bodyPost_ret (results_cell_row Tryd.results26 _ _ (w.heap.size + 2) _ _ _ _ rfl hq Tryd.underlying31 rfl size_hart) rfl ?_
  exact ⟨rfl, hb⟩

end Go.Proofs.YtelakpogochifaaDoor
