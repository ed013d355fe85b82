/-
  What hart.control answers.
-/
import Derived.Test.YtelakpogochifaaDoorHaCtlA
namespace Go.Proofs.YtelakpogochifaaDoor
open Go.RowKit
set_option linter.unusedVariables false

set_option maxHeartbeats 2000000 in
theorem control_54nB (h : H) (ok : h.Ok) (rd s1 s2 : Nat) (im cs : Int) (hrd : rd < 32) (h1 : s1 < 32) (v l : Nat) (hl : l < 4294967296) (h0 : rd = 0) (c : S8) (k : Nat) (hW : writeN h.c cs (mixN 54 0 s1) = (c, k + 1)) (w : World) :
    Calls Tryd.prog 26 #[.agg h.cells, .agg (I6.cells ⟨54, (rd : Nat), (s1 : Nat), (s2 : Nat), im, cs⟩), .int .u32 v, .int .u32 l] w fun e w' => e = .returned (.agg (trapH h 2 v).cells) ∧ Below w.heap.size w w' := by
  have b1 : (0 : Int) ≤ s1 := by omega
  have b2 : (s1 : Int) < 32 := by omega
  subst h0
  have HM : Hid (∀ z : Int, z = ((s1 : Nat) : Int) → ∀ w, Calls Tryd.prog 54 #[.int .i64 54, .int .u32 0, .int .u32 z] w fun e w' => e = .returned (.int .u32 ((mixN 54 0 s1) : Nat)) ∧ w' = w) := hide (fun z hz w => by rw [hz]; exact mixed_54 0 s1 (by decide : 0 < 4294967296) (by omega : s1 < 4294967296) w)
  have HW := hide (fun w => cs_write_bl h.c ok.c cs (mixN 54 0 s1) (mixN_lt 54 (by decide : 0 < 4294967296) (by omega : s1 < 4294967296)) w)
  rw [hW] at HW
  simp only [errW] at HW
  clear hW
  generalize (mixN 54 0 s1) = M at HM HW
  have HT := hide (fun w => trap_any h ok 2 v (by decide) w)
  rw [show (((2 : Nat) : Int)) = 2 from rfl] at HT
  go_enter Tryd.func26, Tryd.ntmps26
  go_wp2_with (first | ((with_reducible refine bx_h w.heap.size h ?_ ?_ ?_); exact rfl; exact rfl; intro W hr hb hz) | ((with_reducible refine bx_i (w.heap.size + 1) ⟨54, ((0 : Nat) : Int), (s1 : Nat), (s2 : Nat), im, cs⟩ ?_ ?_ ?_); exact hz.out; exact rfl; intro W hi hb' hz'; replace hr := hr.bl (hz.out ▸ hb'); replace hb := hb.trans (hb'.mono (by omega)); replace hz := hz') | ((with_reducible refine al_h (w.heap.size + 2) ?_ ?_); exact hz.out; intro W hq hb' hz'; replace hr := hr.bl (hz.out ▸ hb'); replace hi := hi.bl (hz.out ▸ hb'); replace hb := hb.trans (hb'.mono (by omega)); replace hz := hz'; have qa : W.cell? ⟨w.heap.size + 1, 0, none⟩ = some (.int .i64 54) := hi.cell 0; have qb : W.cell? ⟨w.heap.size + 1, 1, none⟩ = some (.int .i64 0) := hi.cell 1; have qc : W.cell? ⟨w.heap.size + 1, 2, none⟩ = some (.int .i64 (s1 : Nat)) := hi.cell 2) | ((with_reducible refine al_c (w.heap.size + 3) ?_ ?_); exact hz.out; intro W hc2 hb' hz'; replace hr := hr.bl (hz.out ▸ hb'); replace hi := hi.bl (hz.out ▸ hb'); replace hq := hq.bl (hz.out ▸ hb'); replace hb := hb.trans (hb'.mono (by omega)); replace hz := hz'; have qa : W.cell? ⟨w.heap.size + 1, 0, none⟩ = some (.int .i64 54) := hi.cell 0; have qb : W.cell? ⟨w.heap.size + 1, 1, none⟩ = some (.int .i64 0) := hi.cell 1; have qc : W.cell? ⟨w.heap.size + 1, 2, none⟩ = some (.int .i64 (s1 : Nat)) := hi.cell 2) | ((with_reducible refine st_s (w.heap.size + 3) _ h.c hc2 ?_ ?_ ?_); exact rfl; exact rfl; intro W hnew ho; replace hr := hr.only ho (by omega); replace hi := hi.only ho (by omega); replace hq := hq.only ho (by omega); replace hc2 := hnew; replace hb := ho.bel _ _ (by omega) hb; have qa : W.cell? ⟨w.heap.size + 1, 0, none⟩ = some (.int .i64 54) := hi.cell 0; have qb : W.cell? ⟨w.heap.size + 1, 1, none⟩ = some (.int .i64 0) := hi.cell 1; have qc : W.cell? ⟨w.heap.size + 1, 2, none⟩ = some (.int .i64 (s1 : Nat)) := hi.cell 2) | ((with_reducible refine ld_h w.heap.size _ hr ?_ ?_); exact rfl) | ((with_reducible refine ld_c w.heap.size _ hr ?_ ?_); exact rfl) | ((with_reducible refine ld_s (w.heap.size + 3) _ hc2 ?_ ?_); exact rfl) | ((with_reducible refine ld_op (w.heap.size + 1) _ hi ?_ ?_); exact rfl) | ((with_reducible refine ld_rd (w.heap.size + 1) _ hi ?_ ?_); exact rfl) | ((with_reducible refine ld_rs1 (w.heap.size + 1) _ hi ?_ ?_); exact rfl) | ((with_reducible refine ld_csr (w.heap.size + 1) _ hi ?_ ?_); exact rfl) | ((with_reducible refine ld_x w.heap.size s1 _ h1 hr ?_ ?_); exact rfl))
  refine wp_region_held_drew (S := (fun V => RowAt V w.heap.size h.cells 31 ∧ RowAt V (w.heap.size + 1) (I6.cells ⟨54, ((0 : Nat) : Int), (s1 : Nat), (s2 : Nat), im, cs⟩) 61 ∧ (RowAt V (w.heap.size + 3) h.c.cells 29 ∨ RowAt V (w.heap.size + 3) c.cells 29) ∧ Below w.heap.size w V)) (by kernel_rfl) ?_ (fun hHeld => ?_)
  · exact ⟨hr.dr, hi.dr, Or.inl hc2.dr, hb.drew⟩
  replace hq := hq.dr
  replace hc2 := hc2.dr
  refine wpAnyH_take (i := 1) (oi := ?oi177) (v := .pointer (some ⟨w.heap.size + 1, 5, none⟩)) ?hi177 (by kernel_rfl) (by kernel_rfl) (by kernel_rfl) ?hQ177 ?hy177 (by assumption) ?rest177
  case hi177 => (simp only [List.getElem?_toArray, List.getElem?_cons_zero, List.getElem?_cons_succ]; rfl)
  case hQ177 => exact fun _ _ _ h => h
  case hy177 => exact Or.inl ⟨by rfl, by (intro w hSw; (try dsimp only at hSw); go_simp )⟩
  simp only [Act.put, List.setIfInBounds_toArray, List.set_cons_zero, List.set_cons_succ]
  refine wpAnyH_take (i := 2) (oi := ?oi178) (v := .int .i64 cs) ?hi178 (by kernel_rfl) (by kernel_rfl) (by kernel_rfl) ?hQ178 ?hy178 (by assumption) ?rest178
  case hi178 => (simp only [List.getElem?_toArray, List.getElem?_cons_zero, List.getElem?_cons_succ]; rfl)
  case hQ178 => exact fun _ _ _ h => h
  case hy178 => exact y_int (w.heap.size + 1) 5 _ (fun V hV => (hV.2.1.cell 5).trans rfl) rfl
  simp only [Act.put, List.setIfInBounds_toArray, List.set_cons_zero, List.set_cons_succ]
  refine wpAnyH_take (i := 3) (oi := ?oi179) (v := .pointer (some ⟨w.heap.size + 1, 0, none⟩)) ?hi179 (by kernel_rfl) (by kernel_rfl) (by kernel_rfl) ?hQ179 ?hy179 (by assumption) ?rest179
  case hi179 => (simp only [List.getElem?_toArray, List.getElem?_cons_zero, List.getElem?_cons_succ]; rfl)
  case hQ179 => exact fun _ _ _ h => h
  case hy179 => exact Or.inl ⟨by rfl, by (intro w hSw; (try dsimp only at hSw); go_simp )⟩
  simp only [Act.put, List.setIfInBounds_toArray, List.set_cons_zero, List.set_cons_succ]
  refine wpAnyH_take (i := 4) (oi := ?oi180) (v := .int .i64 54) ?hi180 (by kernel_rfl) (by kernel_rfl) (by kernel_rfl) ?hQ180 ?hy180 (by assumption) ?rest180
  case hi180 => (simp only [List.getElem?_toArray, List.getElem?_cons_zero, List.getElem?_cons_succ]; rfl)
  case hQ180 => exact fun _ _ _ h => h
  case hy180 => exact y_int (w.heap.size + 1) 0 _ (fun V hV => (hV.2.1.cell 0).trans rfl) rfl
  simp only [Act.put, List.setIfInBounds_toArray, List.set_cons_zero, List.set_cons_succ]
  refine wpAnyH_take (i := 5) (oi := ?oi181) (v := .int .u32 0) ?hi181 (by kernel_rfl) (by kernel_rfl) (by kernel_rfl) ?hQ181 ?hy181 (by assumption) ?rest181
  case hi181 => (simp only [List.getElem?_toArray, List.getElem?_cons_zero, List.getElem?_cons_succ]; rfl)
  case hQ181 => exact fun _ _ _ h => h
  case hy181 => exact Or.inl ⟨by rfl, by (intro w hSw; (try dsimp only at hSw); go_simp )⟩
  simp only [Act.put, List.setIfInBounds_toArray, List.set_cons_zero, List.set_cons_succ]
  refine wpAnyH_take (i := 6) (oi := ?oi182) (v := .int .u32 (s1 : Nat)) ?hi182 (by kernel_rfl) (by kernel_rfl) (by kernel_rfl) ?hQ182 ?hy182 (by assumption) ?rest182
  case hi182 => (simp only [List.getElem?_toArray, List.getElem?_cons_zero, List.getElem?_cons_succ]; rfl)
  case hQ182 => exact fun _ _ _ h => h
  case hy182 => exact Or.inl ⟨by rfl, by (intro w hSw; (try dsimp only at hSw); go_simp <;> omega)⟩
  simp only [Act.put, List.setIfInBounds_toArray, List.set_cons_zero, List.set_cons_succ]
  refine wpAnyH_ready (rs := [0, 7]) (by kernel_rfl) (by simp) ?_
  refine AllReadyH.cons (o := ?oi183) ?hi183 (fun K hK => ?b183) (AllReadyH.cons (o := ?oi184) ?hi184 (fun K hK => ?b184) AllReadyH.nil)
  case hi183 => (simp only [List.getElem?_toArray, List.getElem?_cons_zero]; rfl)
  case hi184 => (simp only [List.getElem?_toArray, List.getElem?_cons_zero, List.getElem?_cons_succ]; rfl)
  case b183 =>
    rw [if_pos (by rfl)]
    (with_reducible refine w_ld_s (w.heap.size + 3) h.c hc2 ?_ ?_)
    · exact rfl
    simp only [Act.put, List.setIfInBounds_toArray, List.set_cons_zero, List.set_cons_succ]
    refine hK.out _ _ ?_ (fun hHeld => ?_)
    · exact hHeld
    clear hK K
    refine wpAnyH_ready (rs := [7]) (by kernel_rfl) (by simp) ?_
    refine AllReadyH.cons (o := ?oi185) ?hi185 (fun K hK => ?_) AllReadyH.nil
    case hi185 => (simp only [List.getElem?_toArray, List.getElem?_cons_zero, List.getElem?_cons_succ]; rfl)
    go_simp
    refine (HM.out _ ?_ _).mono ?_
    · first | rfl | omega
    rintro e V ⟨rfl, rfl⟩
    go_simp
    refine hK.out _ _ ?_ (fun hHeld => ?_)
    · exact hHeld
    clear hK K
    refine wpAnyH_ready (rs := [8]) (by kernel_rfl) (by simp) ?_
    refine AllReadyH.cons (o := ?oi186) ?hi186 (fun K hK => ?_) AllReadyH.nil
    case hi186 => (simp only [List.getElem?_toArray, List.getElem?_cons_zero, List.getElem?_cons_succ]; rfl)
    go_simp
    refine (HW.out _).mono ?_
    rintro e V ⟨rfl, hbc⟩
    replace hr := hHeld.1.bl hbc
    replace hi := hHeld.2.1.bl hbc
    replace hb := below_bl rfl hHeld.2.2.2 hbc
    replace hq := hq.bl hbc
    replace hc2 := hc2.bl hbc
    clear hHeld
    go_simp
    refine hK.out _ _ ?_ (fun hHeld => ?_)
    · exact ⟨hr, hi, Or.inl hc2, hb⟩
    clear hK K
    refine wpAnyH_take (i := 9) (oi := ?oi187) (v := .tuple #[.agg c.cells, (.iface 89 (.int .i64 ((k : Int) + 1)))]) ?hi187 (by kernel_rfl) (by kernel_rfl) (by kernel_rfl) ?hQ187 ?hy187 (by assumption) ?rest187
    case hi187 => (simp only [List.getElem?_toArray, List.getElem?_cons_zero, List.getElem?_cons_succ]; rfl)
    case hQ187 => exact fun _ _ _ h => h
    case hy187 => exact Or.inl ⟨by rfl, by (intro w hSw; (try dsimp only at hSw); go_simp )⟩
    simp only [Act.put, List.setIfInBounds_toArray, List.set_cons_zero, List.set_cons_succ]
    refine wpAnyH_take (i := 10) (oi := ?oi188) (v := .agg c.cells) ?hi188 (by kernel_rfl) (by kernel_rfl) (by kernel_rfl) ?hQ188 ?hy188 (by assumption) ?rest188
    case hi188 => (simp only [List.getElem?_toArray, List.getElem?_cons_zero, List.getElem?_cons_succ]; rfl)
    case hQ188 => exact fun _ _ _ h => h
    case hy188 => exact Or.inl ⟨by rfl, by (intro w hSw; (try dsimp only at hSw); go_simp )⟩
    simp only [Act.put, List.setIfInBounds_toArray, List.set_cons_zero, List.set_cons_succ]
    refine wpAnyH_take (i := 11) (oi := ?oi189) (v := (.iface 89 (.int .i64 ((k : Int) + 1)))) ?hi189 (by kernel_rfl) (by kernel_rfl) (by kernel_rfl) ?hQ189 ?hy189 (by assumption) ?rest189
    case hi189 => (simp only [List.getElem?_toArray, List.getElem?_cons_zero, List.getElem?_cons_succ]; rfl)
    case hQ189 => exact fun _ _ _ h => h
    case hy189 => exact Or.inl ⟨by rfl, by (intro w hSw; (try dsimp only at hSw); go_simp )⟩
    simp only [Act.put, List.setIfInBounds_toArray, List.set_cons_zero, List.set_cons_succ]
    refine wpAnyH_ready (rs := [12]) (by kernel_rfl) (by simp) ?_
    refine AllReadyH.cons (o := ?oi190) ?hi190 (fun K hK => ?_) AllReadyH.nil
    case hi190 => (simp only [List.getElem?_toArray, List.getElem?_cons_zero, List.getElem?_cons_succ]; rfl)
    rw [if_pos (by rfl)]
    (with_reducible refine s_s (w.heap.size + 3) _ c hc2 ?_ ?_ ?_)
    · exact rfl
    · exact rfl
    intro W hnew ho
    replace hr := hr.only ho (by omega)
    replace hi := hi.only ho (by omega)
    replace hq := hq.only ho (by omega)
    replace hb := ho.bel _ _ (by omega) hb
    replace hc2 := hnew
    clear hHeld
    refine hK.out _ _ ?_ (fun hHeld => ?_)
    · exact ⟨hr, hi, Or.inr hc2, hb⟩
    clear hK K
    refine wpAnyH_take (i := 13) (oi := ?oi191) (v := (.iface 89 (.int .i64 ((k : Int) + 1)))) ?hi191 (by kernel_rfl) (by kernel_rfl) (by kernel_rfl) ?hQ191 ?hy191 (by assumption) ?rest191
    case hi191 => (simp only [List.getElem?_toArray, List.getElem?_cons_zero, List.getElem?_cons_succ]; rfl)
    case hQ191 => exact fun _ _ _ h => h
    case hy191 => exact Or.inl ⟨by rfl, by (intro w hSw; (try dsimp only at hSw); go_simp )⟩
    simp only [Act.put, List.setIfInBounds_toArray, List.set_cons_zero, List.set_cons_succ]
    refine wpAnyH_done (by kernel_rfl) ?_ _
    have qa : W.cell? ⟨w.heap.size + 1, 0, none⟩ = some (.int .i64 54) := hi.cell 0
    have qb : W.cell? ⟨w.heap.size + 1, 1, none⟩ = some (.int .i64 0) := hi.cell 1
    have qc : W.cell? ⟨w.heap.size + 1, 2, none⟩ = some (.int .i64 (s1 : Nat)) := hi.cell 2
    go_wp2_with (first | ((with_reducible refine ld_h w.heap.size _ hr ?_ ?_); exact rfl) | ((with_reducible refine ld_c w.heap.size _ hr ?_ ?_); exact rfl) | ((with_reducible refine ld_s (w.heap.size + 3) _ hc2 ?_ ?_); exact rfl) | ((with_reducible refine ld_op (w.heap.size + 1) _ hi ?_ ?_); exact rfl) | ((with_reducible refine ld_rd (w.heap.size + 1) _ hi ?_ ?_); exact rfl) | ((with_reducible refine ld_rs1 (w.heap.size + 1) _ hi ?_ ?_); exact rfl) | ((with_reducible refine ld_csr (w.heap.size + 1) _ hi ?_ ?_); exact rfl) | ((with_reducible refine ld_x w.heap.size s1 _ h1 hr ?_ ?_); exact rfl) | (go_at_call 22; refine (HT.out _).mono ?_; rintro e W ⟨rfl, hbc⟩; replace hr := hr.bl hbc; replace hi := hi.bl hbc; replace hq := hq.bl hbc; replace hc2 := hc2.bl hbc; replace hb := below_bl rfl hb hbc) | ((with_reducible refine st_h (w.heap.size + 2) _ (trapH h 2 v) hq ?_ ?_ ?_); exact rfl; exact rfl; intro W hnew ho; replace hr := hr.only ho (by omega); replace hi := hi.only ho (by omega); replace hc2 := hc2.only ho (by omega); replace hq := hnew; replace hb := ho.bel _ _ (by omega) hb))
    refine bodyPost_ret (results_cell_row Tryd.results26 _ _ (w.heap.size + 2) _ _ _ _ rfl hq Tryd.underlying31 rfl size_hart) rfl ?_
    exact ⟨rfl, hb⟩
  case b184 =>
    go_simp
    refine (HM.out _ ?_ _).mono ?_
    · first | rfl | omega
    rintro e V ⟨rfl, rfl⟩
    go_simp
    refine hK.out _ _ ?_ (fun hHeld => ?_)
    · exact hHeld
    clear hK K
    refine wpAnyH_ready (rs := [0]) (by kernel_rfl) (by simp) ?_
    refine AllReadyH.cons (o := ?oi192) ?hi192 (fun K hK => ?_) AllReadyH.nil
    case hi192 => (simp only [List.getElem?_toArray, List.getElem?_cons_zero]; rfl)
    rw [if_pos (by rfl)]
    (with_reducible refine w_ld_s (w.heap.size + 3) h.c hc2 ?_ ?_)
    · exact rfl
    simp only [Act.put, List.setIfInBounds_toArray, List.set_cons_zero, List.set_cons_succ]
    refine hK.out _ _ ?_ (fun hHeld => ?_)
    · exact hHeld
    clear hK K
    refine wpAnyH_ready (rs := [8]) (by kernel_rfl) (by simp) ?_
    refine AllReadyH.cons (o := ?oi193) ?hi193 (fun K hK => ?_) AllReadyH.nil
    case hi193 => (simp only [List.getElem?_toArray, List.getElem?_cons_zero, List.getElem?_cons_succ]; rfl)
    go_simp
    refine (HW.out _).mono ?_
    rintro e V ⟨rfl, hbc⟩
    replace hr := hHeld.1.bl hbc
    replace hi := hHeld.2.1.bl hbc
    replace hb := below_bl rfl hHeld.2.2.2 hbc
    replace hq := hq.bl hbc
    replace hc2 := hc2.bl hbc
    clear hHeld
    go_simp
    refine hK.out _ _ ?_ (fun hHeld => ?_)
    · exact ⟨hr, hi, Or.inl hc2, hb⟩
    clear hK K
    refine wpAnyH_take (i := 9) (oi := ?oi194) (v := .tuple #[.agg c.cells, (.iface 89 (.int .i64 ((k : Int) + 1)))]) ?hi194 (by kernel_rfl) (by kernel_rfl) (by kernel_rfl) ?hQ194 ?hy194 (by assumption) ?rest194
    case hi194 => (simp only [List.getElem?_toArray, List.getElem?_cons_zero, List.getElem?_cons_succ]; rfl)
    case hQ194 => exact fun _ _ _ h => h
    case hy194 => exact Or.inl ⟨by rfl, by (intro w hSw; (try dsimp only at hSw); go_simp )⟩
    simp only [Act.put, List.setIfInBounds_toArray, List.set_cons_zero, List.set_cons_succ]
    refine wpAnyH_take (i := 10) (oi := ?oi195) (v := .agg c.cells) ?hi195 (by kernel_rfl) (by kernel_rfl) (by kernel_rfl) ?hQ195 ?hy195 (by assumption) ?rest195
    case hi195 => (simp only [List.getElem?_toArray, List.getElem?_cons_zero, List.getElem?_cons_succ]; rfl)
    case hQ195 => exact fun _ _ _ h => h
    case hy195 => exact Or.inl ⟨by rfl, by (intro w hSw; (try dsimp only at hSw); go_simp )⟩
    simp only [Act.put, List.setIfInBounds_toArray, List.set_cons_zero, List.set_cons_succ]
    refine wpAnyH_take (i := 11) (oi := ?oi196) (v := (.iface 89 (.int .i64 ((k : Int) + 1)))) ?hi196 (by kernel_rfl) (by kernel_rfl) (by kernel_rfl) ?hQ196 ?hy196 (by assumption) ?rest196
    case hi196 => (simp only [List.getElem?_toArray, List.getElem?_cons_zero, List.getElem?_cons_succ]; rfl)
    case hQ196 => exact fun _ _ _ h => h
    case hy196 => exact Or.inl ⟨by rfl, by (intro w hSw; (try dsimp only at hSw); go_simp )⟩
    simp only [Act.put, List.setIfInBounds_toArray, List.set_cons_zero, List.set_cons_succ]
    refine wpAnyH_ready (rs := [12]) (by kernel_rfl) (by simp) ?_
    refine AllReadyH.cons (o := ?oi197) ?hi197 (fun K hK => ?_) AllReadyH.nil
    case hi197 => (simp only [List.getElem?_toArray, List.getElem?_cons_zero, List.getElem?_cons_succ]; rfl)
    rw [if_pos (by rfl)]
    (with_reducible refine s_s (w.heap.size + 3) _ c hc2 ?_ ?_ ?_)
    · exact rfl
    · exact rfl
    intro W hnew ho
    replace hr := hr.only ho (by omega)
    replace hi := hi.only ho (by omega)
    replace hq := hq.only ho (by omega)
    replace hb := ho.bel _ _ (by omega) hb
    replace hc2 := hnew
    clear hHeld
    refine hK.out _ _ ?_ (fun hHeld => ?_)
    · exact ⟨hr, hi, Or.inr hc2, hb⟩
    clear hK K
    refine wpAnyH_take (i := 13) (oi := ?oi198) (v := (.iface 89 (.int .i64 ((k : Int) + 1)))) ?hi198 (by kernel_rfl) (by kernel_rfl) (by kernel_rfl) ?hQ198 ?hy198 (by assumption) ?rest198
    case hi198 => (simp only [List.getElem?_toArray, List.getElem?_cons_zero, List.getElem?_cons_succ]; rfl)
    case hQ198 => exact fun _ _ _ h => h
    case hy198 => exact Or.inl ⟨by rfl, by (intro w hSw; (try dsimp only at hSw); go_simp )⟩
    simp only [Act.put, List.setIfInBounds_toArray, List.set_cons_zero, List.set_cons_succ]
    refine wpAnyH_done (by kernel_rfl) ?_ _
    have qa : W.cell? ⟨w.heap.size + 1, 0, none⟩ = some (.int .i64 54) := hi.cell 0
    have qb : W.cell? ⟨w.heap.size + 1, 1, none⟩ = some (.int .i64 0) := hi.cell 1
    have qc : W.cell? ⟨w.heap.size + 1, 2, none⟩ = some (.int .i64 (s1 : Nat)) := hi.cell 2
    go_wp2_with (first | ((with_reducible refine ld_h w.heap.size _ hr ?_ ?_); exact rfl) | ((with_reducible refine ld_c w.heap.size _ hr ?_ ?_); exact rfl) | ((with_reducible refine ld_s (w.heap.size + 3) _ hc2 ?_ ?_); exact rfl) | ((with_reducible refine ld_op (w.heap.size + 1) _ hi ?_ ?_); exact rfl) | ((with_reducible refine ld_rd (w.heap.size + 1) _ hi ?_ ?_); exact rfl) | ((with_reducible refine ld_rs1 (w.heap.size + 1) _ hi ?_ ?_); exact rfl) | ((with_reducible refine ld_csr (w.heap.size + 1) _ hi ?_ ?_); exact rfl) | ((with_reducible refine ld_x w.heap.size s1 _ h1 hr ?_ ?_); exact rfl) | (go_at_call 22; refine (HT.out _).mono ?_; rintro e W ⟨rfl, hbc⟩; replace hr := hr.bl hbc; replace hi := hi.bl hbc; replace hq := hq.bl hbc; replace hc2 := hc2.bl hbc; replace hb := below_bl rfl hb hbc) | ((with_reducible refine st_h (w.heap.size + 2) _ (trapH h 2 v) hq ?_ ?_ ?_); exact rfl; exact rfl; intro W hnew ho; replace hr := hr.only ho (by omega); replace hi := hi.only ho (by omega); replace hc2 := hc2.only ho (by omega); replace hq := hnew; replace hb := ho.bel _ _ (by omega) hb))
    refine bodyPost_ret (results_cell_row Tryd.results26 _ _ (w.heap.size + 2) _ _ _ _ rfl hq Tryd.underlying31 rfl size_hart) rfl ?_
    exact ⟨rfl, hb⟩

set_option maxHeartbeats 2000000 in
theorem control_54nC (h : H) (ok : h.Ok) (rd s1 s2 : Nat) (im cs : Int) (hrd : rd < 32) (h1 : s1 < 32) (v l : Nat) (hl : l < 4294967296) (h0 : rd = 0) (c : S8) (hc : c.Ok) (hW : writeN h.c cs (mixN 54 0 s1) = (c, 0)) (w : World) :
    Calls Tryd.prog 26 #[.agg h.cells, .agg (I6.cells ⟨54, (rd : Nat), (s1 : Nat), (s2 : Nat), im, cs⟩), .int .u32 v, .int .u32 l] w fun e w' => e = .returned (.agg (nextH (writeH (withC h c) 0 0)).cells) ∧ Below w.heap.size w w' := by
  have b1 : (0 : Int) ≤ s1 := by omega
  have b2 : (s1 : Int) < 32 := by omega
  subst h0
  have HM : Hid (∀ z : Int, z = ((s1 : Nat) : Int) → ∀ w, Calls Tryd.prog 54 #[.int .i64 54, .int .u32 0, .int .u32 z] w fun e w' => e = .returned (.int .u32 ((mixN 54 0 s1) : Nat)) ∧ w' = w) := hide (fun z hz w => by rw [hz]; exact mixed_54 0 s1 (by decide : 0 < 4294967296) (by omega : s1 < 4294967296) w)
  have HW := hide (fun w => cs_write_bl h.c ok.c cs (mixN 54 0 s1) (mixN_lt 54 (by decide : 0 < 4294967296) (by omega : s1 < 4294967296)) w)
  rw [hW] at HW
  simp only [errW] at HW
  clear hW
  generalize (mixN 54 0 s1) = M at HM HW
  have ok' : H.Ok (withC h c) := ⟨ok.pc, ok.x, hc⟩
  have HWr := hide (fun w => write_any (withC h c) 0 (by decide) 0 w)
  have HN := hide (fun w => next_any _ (writeH_ok ok' 0 (by decide : 0 < 4294967296)) w)
  rw [show (((0 : Nat) : Int)) = 0 from rfl] at HWr
  go_enter Tryd.func26, Tryd.ntmps26
  go_wp2_with (first | ((with_reducible refine bx_h w.heap.size h ?_ ?_ ?_); exact rfl; exact rfl; intro W hr hb hz) | ((with_reducible refine bx_i (w.heap.size + 1) ⟨54, ((0 : Nat) : Int), (s1 : Nat), (s2 : Nat), im, cs⟩ ?_ ?_ ?_); exact hz.out; exact rfl; intro W hi hb' hz'; replace hr := hr.bl (hz.out ▸ hb'); replace hb := hb.trans (hb'.mono (by omega)); replace hz := hz') | ((with_reducible refine al_h (w.heap.size + 2) ?_ ?_); exact hz.out; intro W hq hb' hz'; replace hr := hr.bl (hz.out ▸ hb'); replace hi := hi.bl (hz.out ▸ hb'); replace hb := hb.trans (hb'.mono (by omega)); replace hz := hz'; have qa : W.cell? ⟨w.heap.size + 1, 0, none⟩ = some (.int .i64 54) := hi.cell 0; have qb : W.cell? ⟨w.heap.size + 1, 1, none⟩ = some (.int .i64 0) := hi.cell 1; have qc : W.cell? ⟨w.heap.size + 1, 2, none⟩ = some (.int .i64 (s1 : Nat)) := hi.cell 2) | ((with_reducible refine al_c (w.heap.size + 3) ?_ ?_); exact hz.out; intro W hc2 hb' hz'; replace hr := hr.bl (hz.out ▸ hb'); replace hi := hi.bl (hz.out ▸ hb'); replace hq := hq.bl (hz.out ▸ hb'); replace hb := hb.trans (hb'.mono (by omega)); replace hz := hz'; have qa : W.cell? ⟨w.heap.size + 1, 0, none⟩ = some (.int .i64 54) := hi.cell 0; have qb : W.cell? ⟨w.heap.size + 1, 1, none⟩ = some (.int .i64 0) := hi.cell 1; have qc : W.cell? ⟨w.heap.size + 1, 2, none⟩ = some (.int .i64 (s1 : Nat)) := hi.cell 2) | ((with_reducible refine st_s (w.heap.size + 3) _ h.c hc2 ?_ ?_ ?_); exact rfl; exact rfl; intro W hnew ho; replace hr := hr.only ho (by omega); replace hi := hi.only ho (by omega); replace hq := hq.only ho (by omega); replace hc2 := hnew; replace hb := ho.bel _ _ (by omega) hb; have qa : W.cell? ⟨w.heap.size + 1, 0, none⟩ = some (.int .i64 54) := hi.cell 0; have qb : W.cell? ⟨w.heap.size + 1, 1, none⟩ = some (.int .i64 0) := hi.cell 1; have qc : W.cell? ⟨w.heap.size + 1, 2, none⟩ = some (.int .i64 (s1 : Nat)) := hi.cell 2) | ((with_reducible refine ld_h w.heap.size _ hr ?_ ?_); exact rfl) | ((with_reducible refine ld_c w.heap.size _ hr ?_ ?_); exact rfl) | ((with_reducible refine ld_s (w.heap.size + 3) _ hc2 ?_ ?_); exact rfl) | ((with_reducible refine ld_op (w.heap.size + 1) _ hi ?_ ?_); exact rfl) | ((with_reducible refine ld_rd (w.heap.size + 1) _ hi ?_ ?_); exact rfl) | ((with_reducible refine ld_rs1 (w.heap.size + 1) _ hi ?_ ?_); exact rfl) | ((with_reducible refine ld_csr (w.heap.size + 1) _ hi ?_ ?_); exact rfl) | ((with_reducible refine ld_x w.heap.size s1 _ h1 hr ?_ ?_); exact rfl))
  refine wp_region_held_drew (S := (fun V => RowAt V w.heap.size h.cells 31 ∧ RowAt V (w.heap.size + 1) (I6.cells ⟨54, ((0 : Nat) : Int), (s1 : Nat), (s2 : Nat), im, cs⟩) 61 ∧ (RowAt V (w.heap.size + 3) h.c.cells 29 ∨ RowAt V (w.heap.size + 3) c.cells 29) ∧ Below w.heap.size w V)) (by kernel_rfl) ?_ (fun hHeld => ?_)
  · exact ⟨hr.dr, hi.dr, Or.inl hc2.dr, hb.drew⟩
  replace hq := hq.dr
  replace hc2 := hc2.dr
  refine wpAnyH_take (i := 1) (oi := ?oi199) (v := .pointer (some ⟨w.heap.size + 1, 5, none⟩)) ?hi199 (by kernel_rfl) (by kernel_rfl) (by kernel_rfl) ?hQ199 ?hy199 (by assumption) ?rest199
  case hi199 => (simp only [List.getElem?_toArray, List.getElem?_cons_zero, List.getElem?_cons_succ]; rfl)
  case hQ199 => exact fun _ _ _ h => h
  case hy199 => exact Or.inl ⟨by rfl, by (intro w hSw; (try dsimp only at hSw); go_simp )⟩
  simp only [Act.put, List.setIfInBounds_toArray, List.set_cons_zero, List.set_cons_succ]
  refine wpAnyH_take (i := 2) (oi := ?oi200) (v := .int .i64 cs) ?hi200 (by kernel_rfl) (by kernel_rfl) (by kernel_rfl) ?hQ200 ?hy200 (by assumption) ?rest200
  case hi200 => (simp only [List.getElem?_toArray, List.getElem?_cons_zero, List.getElem?_cons_succ]; rfl)
  case hQ200 => exact fun _ _ _ h => h
  case hy200 => exact y_int (w.heap.size + 1) 5 _ (fun V hV => (hV.2.1.cell 5).trans rfl) rfl
  simp only [Act.put, List.setIfInBounds_toArray, List.set_cons_zero, List.set_cons_succ]
  refine wpAnyH_take (i := 3) (oi := ?oi201) (v := .pointer (some ⟨w.heap.size + 1, 0, none⟩)) ?hi201 (by kernel_rfl) (by kernel_rfl) (by kernel_rfl) ?hQ201 ?hy201 (by assumption) ?rest201
  case hi201 => (simp only [List.getElem?_toArray, List.getElem?_cons_zero, List.getElem?_cons_succ]; rfl)
  case hQ201 => exact fun _ _ _ h => h
  case hy201 => exact Or.inl ⟨by rfl, by (intro w hSw; (try dsimp only at hSw); go_simp )⟩
  simp only [Act.put, List.setIfInBounds_toArray, List.set_cons_zero, List.set_cons_succ]
  refine wpAnyH_take (i := 4) (oi := ?oi202) (v := .int .i64 54) ?hi202 (by kernel_rfl) (by kernel_rfl) (by kernel_rfl) ?hQ202 ?hy202 (by assumption) ?rest202
  case hi202 => (simp only [List.getElem?_toArray, List.getElem?_cons_zero, List.getElem?_cons_succ]; rfl)
  case hQ202 => exact fun _ _ _ h => h
  case hy202 => exact y_int (w.heap.size + 1) 0 _ (fun V hV => (hV.2.1.cell 0).trans rfl) rfl
  simp only [Act.put, List.setIfInBounds_toArray, List.set_cons_zero, List.set_cons_succ]
  refine wpAnyH_take (i := 5) (oi := ?oi203) (v := .int .u32 0) ?hi203 (by kernel_rfl) (by kernel_rfl) (by kernel_rfl) ?hQ203 ?hy203 (by assumption) ?rest203
  case hi203 => (simp only [List.getElem?_toArray, List.getElem?_cons_zero, List.getElem?_cons_succ]; rfl)
  case hQ203 => exact fun _ _ _ h => h
  case hy203 => exact Or.inl ⟨by rfl, by (intro w hSw; (try dsimp only at hSw); go_simp )⟩
  simp only [Act.put, List.setIfInBounds_toArray, List.set_cons_zero, List.set_cons_succ]
  refine wpAnyH_take (i := 6) (oi := ?oi204) (v := .int .u32 (s1 : Nat)) ?hi204 (by kernel_rfl) (by kernel_rfl) (by kernel_rfl) ?hQ204 ?hy204 (by assumption) ?rest204
  case hi204 => (simp only [List.getElem?_toArray, List.getElem?_cons_zero, List.getElem?_cons_succ]; rfl)
  case hQ204 => exact fun _ _ _ h => h
  case hy204 => exact Or.inl ⟨by rfl, by (intro w hSw; (try dsimp only at hSw); go_simp <;> omega)⟩
  simp only [Act.put, List.setIfInBounds_toArray, List.set_cons_zero, List.set_cons_succ]
  refine wpAnyH_ready (rs := [0, 7]) (by kernel_rfl) (by simp) ?_
  refine AllReadyH.cons (o := ?oi205) ?hi205 (fun K hK => ?b205) (AllReadyH.cons (o := ?oi206) ?hi206 (fun K hK => ?b206) AllReadyH.nil)
  case hi205 => (simp only [List.getElem?_toArray, List.getElem?_cons_zero]; rfl)
  case hi206 => (simp only [List.getElem?_toArray, List.getElem?_cons_zero, List.getElem?_cons_succ]; rfl)
  case b205 =>
    rw [if_pos (by rfl)]
    (with_reducible refine w_ld_s (w.heap.size + 3) h.c hc2 ?_ ?_)
    · exact rfl
    simp only [Act.put, List.setIfInBounds_toArray, List.set_cons_zero, List.set_cons_succ]
    refine hK.out _ _ ?_ (fun hHeld => ?_)
    · exact hHeld
    clear hK K
    refine wpAnyH_ready (rs := [7]) (by kernel_rfl) (by simp) ?_
    refine AllReadyH.cons (o := ?oi207) ?hi207 (fun K hK => ?_) AllReadyH.nil
    case hi207 => (simp only [List.getElem?_toArray, List.getElem?_cons_zero, List.getElem?_cons_succ]; rfl)
    go_simp
    refine (HM.out _ ?_ _).mono ?_
    · first | rfl | omega
    rintro e V ⟨rfl, rfl⟩
    go_simp
    refine hK.out _ _ ?_ (fun hHeld => ?_)
    · exact hHeld
    clear hK K
    refine wpAnyH_ready (rs := [8]) (by kernel_rfl) (by simp) ?_
    refine AllReadyH.cons (o := ?oi208) ?hi208 (fun K hK => ?_) AllReadyH.nil
    case hi208 => (simp only [List.getElem?_toArray, List.getElem?_cons_zero, List.getElem?_cons_succ]; rfl)
    go_simp
    refine (HW.out _).mono ?_
    rintro e V ⟨rfl, hbc⟩
    replace hr := hHeld.1.bl hbc
    replace hi := hHeld.2.1.bl hbc
    replace hb := below_bl rfl hHeld.2.2.2 hbc
    replace hq := hq.bl hbc
    replace hc2 := hc2.bl hbc
    clear hHeld
    go_simp
    refine hK.out _ _ ?_ (fun hHeld => ?_)
    · exact ⟨hr, hi, Or.inl hc2, hb⟩
    clear hK K
    refine wpAnyH_take (i := 9) (oi := ?oi209) (v := .tuple #[.agg c.cells, .nilIface]) ?hi209 (by kernel_rfl) (by kernel_rfl) (by kernel_rfl) ?hQ209 ?hy209 (by assumption) ?rest209
    case hi209 => (simp only [List.getElem?_toArray, List.getElem?_cons_zero, List.getElem?_cons_succ]; rfl)
    case hQ209 => exact fun _ _ _ h => h
    case hy209 => exact Or.inl ⟨by rfl, by (intro w hSw; (try dsimp only at hSw); go_simp )⟩
    simp only [Act.put, List.setIfInBounds_toArray, List.set_cons_zero, List.set_cons_succ]
    refine wpAnyH_take (i := 10) (oi := ?oi210) (v := .agg c.cells) ?hi210 (by kernel_rfl) (by kernel_rfl) (by kernel_rfl) ?hQ210 ?hy210 (by assumption) ?rest210
    case hi210 => (simp only [List.getElem?_toArray, List.getElem?_cons_zero, List.getElem?_cons_succ]; rfl)
    case hQ210 => exact fun _ _ _ h => h
    case hy210 => exact Or.inl ⟨by rfl, by (intro w hSw; (try dsimp only at hSw); go_simp )⟩
    simp only [Act.put, List.setIfInBounds_toArray, List.set_cons_zero, List.set_cons_succ]
    refine wpAnyH_take (i := 11) (oi := ?oi211) (v := .nilIface) ?hi211 (by kernel_rfl) (by kernel_rfl) (by kernel_rfl) ?hQ211 ?hy211 (by assumption) ?rest211
    case hi211 => (simp only [List.getElem?_toArray, List.getElem?_cons_zero, List.getElem?_cons_succ]; rfl)
    case hQ211 => exact fun _ _ _ h => h
    case hy211 => exact Or.inl ⟨by rfl, by (intro w hSw; (try dsimp only at hSw); go_simp )⟩
    simp only [Act.put, List.setIfInBounds_toArray, List.set_cons_zero, List.set_cons_succ]
    refine wpAnyH_ready (rs := [12]) (by kernel_rfl) (by simp) ?_
    refine AllReadyH.cons (o := ?oi212) ?hi212 (fun K hK => ?_) AllReadyH.nil
    case hi212 => (simp only [List.getElem?_toArray, List.getElem?_cons_zero, List.getElem?_cons_succ]; rfl)
    rw [if_pos (by rfl)]
    (with_reducible refine s_s (w.heap.size + 3) _ c hc2 ?_ ?_ ?_)
    · exact rfl
    · exact rfl
    intro W hnew ho
    replace hr := hr.only ho (by omega)
    replace hi := hi.only ho (by omega)
    replace hq := hq.only ho (by omega)
    replace hb := ho.bel _ _ (by omega) hb
    replace hc2 := hnew
    clear hHeld
    refine hK.out _ _ ?_ (fun hHeld => ?_)
    · exact ⟨hr, hi, Or.inr hc2, hb⟩
    clear hK K
    refine wpAnyH_take (i := 13) (oi := ?oi213) (v := .nilIface) ?hi213 (by kernel_rfl) (by kernel_rfl) (by kernel_rfl) ?hQ213 ?hy213 (by assumption) ?rest213
    case hi213 => (simp only [List.getElem?_toArray, List.getElem?_cons_zero, List.getElem?_cons_succ]; rfl)
    case hQ213 => exact fun _ _ _ h => h
    case hy213 => exact Or.inl ⟨by rfl, by (intro w hSw; (try dsimp only at hSw); go_simp )⟩
    simp only [Act.put, List.setIfInBounds_toArray, List.set_cons_zero, List.set_cons_succ]
    refine wpAnyH_done (by kernel_rfl) ?_ _
    have qa : W.cell? ⟨w.heap.size + 1, 0, none⟩ = some (.int .i64 54) := hi.cell 0
    have qb : W.cell? ⟨w.heap.size + 1, 1, none⟩ = some (.int .i64 0) := hi.cell 1
    have qc : W.cell? ⟨w.heap.size + 1, 2, none⟩ = some (.int .i64 (s1 : Nat)) := hi.cell 2
    go_wp2_with (first | ((with_reducible refine ld_h w.heap.size _ hr ?_ ?_); exact rfl) | ((with_reducible refine ld_c w.heap.size _ hr ?_ ?_); exact rfl) | ((with_reducible refine ld_s (w.heap.size + 3) _ hc2 ?_ ?_); exact rfl) | ((with_reducible refine ld_op (w.heap.size + 1) _ hi ?_ ?_); exact rfl) | ((with_reducible refine ld_rd (w.heap.size + 1) _ hi ?_ ?_); exact rfl) | ((with_reducible refine ld_rs1 (w.heap.size + 1) _ hi ?_ ?_); exact rfl) | ((with_reducible refine ld_csr (w.heap.size + 1) _ hi ?_ ?_); exact rfl) | ((with_reducible refine ld_x w.heap.size s1 _ h1 hr ?_ ?_); exact rfl) | ((with_reducible refine st_c w.heap.size _ c hr ?_ ?_ ?_); exact rfl; exact rfl; intro W hnew ho; replace hi := hi.only ho (by omega); replace hq := hq.only ho (by omega); replace hc2 := hc2.only ho (by omega); replace hr := hnew; replace hb := ho.bel _ _ (by omega) hb) | (go_at_call 46; refine (HWr.out _).mono ?_; rintro e W ⟨rfl, hbc⟩; replace hr := hr.bl hbc; replace hi := hi.bl hbc; replace hq := hq.bl hbc; replace hc2 := hc2.bl hbc; replace hb := below_bl rfl hb hbc) | (go_at_call 45; refine (HN.out _).mono ?_; rintro e W ⟨rfl, hbc⟩; replace hr := hr.bl hbc; replace hi := hi.bl hbc; replace hq := hq.bl hbc; replace hc2 := hc2.bl hbc; replace hb := below_bl rfl hb hbc) | ((with_reducible refine st_h (w.heap.size + 2) _ (nextH (writeH (withC h c) 0 0)) hq ?_ ?_ ?_); exact rfl; exact rfl; intro W hnew ho; replace hr := hr.only ho (by omega); replace hi := hi.only ho (by omega); replace hc2 := hc2.only ho (by omega); replace hq := hnew; replace hb := ho.bel _ _ (by omega) hb))
    refine bodyPost_ret (results_cell_row Tryd.results26 _ _ (w.heap.size + 2) _ _ _ _ rfl hq Tryd.underlying31 rfl size_hart) rfl ?_
    exact ⟨rfl, hb⟩
  case b206 =>
    go_simp
    refine (HM.out _ ?_ _).mono ?_
    · first | rfl | omega
    rintro e V ⟨rfl, rfl⟩
    go_simp
    refine hK.out _ _ ?_ (fun hHeld => ?_)
    · exact hHeld
    clear hK K
    refine wpAnyH_ready (rs := [0]) (by kernel_rfl) (by simp) ?_
    refine AllReadyH.cons (o := ?oi214) ?hi214 (fun K hK => ?_) AllReadyH.nil
    case hi214 => (simp only [List.getElem?_toArray, List.getElem?_cons_zero]; rfl)
    rw [if_pos (by rfl)]
    (with_reducible refine w_ld_s (w.heap.size + 3) h.c hc2 ?_ ?_)
    · exact rfl
    simp only [Act.put, List.setIfInBounds_toArray, List.set_cons_zero, List.set_cons_succ]
    refine hK.out _ _ ?_ (fun hHeld => ?_)
    · exact hHeld
    clear hK K
    refine wpAnyH_ready (rs := [8]) (by kernel_rfl) (by simp) ?_
    refine AllReadyH.cons (o := ?oi215) ?hi215 (fun K hK => ?_) AllReadyH.nil
    case hi215 => (simp only [List.getElem?_toArray, List.getElem?_cons_zero, List.getElem?_cons_succ]; rfl)
    go_simp
    refine (HW.out _).mono ?_
    rintro e V ⟨rfl, hbc⟩
    replace hr := hHeld.1.bl hbc
    replace hi := hHeld.2.1.bl hbc
    replace hb := below_bl rfl hHeld.2.2.2 hbc
    replace hq := hq.bl hbc
    replace hc2 := hc2.bl hbc
    clear hHeld
    go_simp
    refine hK.out _ _ ?_ (fun hHeld => ?_)
    · exact ⟨hr, hi, Or.inl hc2, hb⟩
    clear hK K
    refine wpAnyH_take (i := 9) (oi := ?oi216) (v := .tuple #[.agg c.cells, .nilIface]) ?hi216 (by kernel_rfl) (by kernel_rfl) (by kernel_rfl) ?hQ216 ?hy216 (by assumption) ?rest216
    case hi216 => (simp only [List.getElem?_toArray, List.getElem?_cons_zero, List.getElem?_cons_succ]; rfl)
    case hQ216 => exact fun _ _ _ h => h
    case hy216 => exact Or.inl ⟨by rfl, by (intro w hSw; (try dsimp only at hSw); go_simp )⟩
    simp only [Act.put, List.setIfInBounds_toArray, List.set_cons_zero, List.set_cons_succ]
    refine wpAnyH_take (i := 10) (oi := ?oi217) (v := .agg c.cells) ?hi217 (by kernel_rfl) (by kernel_rfl) (by kernel_rfl) ?hQ217 ?hy217 (by assumption) ?rest217
    case hi217 => (simp only [List.getElem?_toArray, List.getElem?_cons_zero, List.getElem?_cons_succ]; rfl)
    case hQ217 => exact fun _ _ _ h => h
    case hy217 => exact Or.inl ⟨by rfl, by (intro w hSw; (try dsimp only at hSw); go_simp )⟩
    simp only [Act.put, List.setIfInBounds_toArray, List.set_cons_zero, List.set_cons_succ]
    refine wpAnyH_take (i := 11) (oi := ?oi218) (v := .nilIface) ?hi218 (by kernel_rfl) (by kernel_rfl) (by kernel_rfl) ?hQ218 ?hy218 (by assumption) ?rest218
    case hi218 => (simp only [List.getElem?_toArray, List.getElem?_cons_zero, List.getElem?_cons_succ]; rfl)
    case hQ218 => exact fun _ _ _ h => h
    case hy218 => exact Or.inl ⟨by rfl, by (intro w hSw; (try dsimp only at hSw); go_simp )⟩
    simp only [Act.put, List.setIfInBounds_toArray, List.set_cons_zero, List.set_cons_succ]
    refine wpAnyH_ready (rs := [12]) (by kernel_rfl) (by simp) ?_
    refine AllReadyH.cons (o := ?oi219) ?hi219 (fun K hK => ?_) AllReadyH.nil
    case hi219 => (simp only [List.getElem?_toArray, List.getElem?_cons_zero, List.getElem?_cons_succ]; rfl)
    rw [if_pos (by rfl)]
    (with_reducible refine s_s (w.heap.size + 3) _ c hc2 ?_ ?_ ?_)
    · exact rfl
    · exact rfl
    intro W hnew ho
    replace hr := hr.only ho (by omega)
    replace hi := hi.only ho (by omega)
    replace hq := hq.only ho (by omega)
    replace hb := ho.bel _ _ (by omega) hb
    replace hc2 := hnew
    clear hHeld
    refine hK.out _ _ ?_ (fun hHeld => ?_)
    · exact ⟨hr, hi, Or.inr hc2, hb⟩
    clear hK K
    refine wpAnyH_take (i := 13) (oi := ?oi220) (v := .nilIface) ?hi220 (by kernel_rfl) (by kernel_rfl) (by kernel_rfl) ?hQ220 ?hy220 (by assumption) ?rest220
    case hi220 => (simp only [List.getElem?_toArray, List.getElem?_cons_zero, List.getElem?_cons_succ]; rfl)
    case hQ220 => exact fun _ _ _ h => h
    case hy220 => exact Or.inl ⟨by rfl, by (intro w hSw; (try dsimp only at hSw); go_simp )⟩
    simp only [Act.put, List.setIfInBounds_toArray, List.set_cons_zero, List.set_cons_succ]
    refine wpAnyH_done (by kernel_rfl) ?_ _
    have qa : W.cell? ⟨w.heap.size + 1, 0, none⟩ = some (.int .i64 54) := hi.cell 0
    have qb : W.cell? ⟨w.heap.size + 1, 1, none⟩ = some (.int .i64 0) := hi.cell 1
    have qc : W.cell? ⟨w.heap.size + 1, 2, none⟩ = some (.int .i64 (s1 : Nat)) := hi.cell 2
    go_wp2_with (first | ((with_reducible refine ld_h w.heap.size _ hr ?_ ?_); exact rfl) | ((with_reducible refine ld_c w.heap.size _ hr ?_ ?_); exact rfl) | ((with_reducible refine ld_s (w.heap.size + 3) _ hc2 ?_ ?_); exact rfl) | ((with_reducible refine ld_op (w.heap.size + 1) _ hi ?_ ?_); exact rfl) | ((with_reducible refine ld_rd (w.heap.size + 1) _ hi ?_ ?_); exact rfl) | ((with_reducible refine ld_rs1 (w.heap.size + 1) _ hi ?_ ?_); exact rfl) | ((with_reducible refine ld_csr (w.heap.size + 1) _ hi ?_ ?_); exact rfl) | ((with_reducible refine ld_x w.heap.size s1 _ h1 hr ?_ ?_); exact rfl) | ((with_reducible refine st_c w.heap.size _ c hr ?_ ?_ ?_); exact rfl; exact rfl; intro W hnew ho; replace hi := hi.only ho (by omega); replace hq := hq.only ho (by omega); replace hc2 := hc2.only ho (by omega); replace hr := hnew; replace hb := ho.bel _ _ (by omega) hb) | (go_at_call 46; refine (HWr.out _).mono ?_; rintro e W ⟨rfl, hbc⟩; replace hr := hr.bl hbc; replace hi := hi.bl hbc; replace hq := hq.bl hbc; replace hc2 := hc2.bl hbc; replace hb := below_bl rfl hb hbc) | (go_at_call 45; refine (HN.out _).mono ?_; rintro e W ⟨rfl, hbc⟩; replace hr := hr.bl hbc; replace hi := hi.bl hbc; replace hq := hq.bl hbc; replace hc2 := hc2.bl hbc; replace hb := below_bl rfl hb hbc) | ((with_reducible refine st_h (w.heap.size + 2) _ (nextH (writeH (withC h c) 0 0)) hq ?_ ?_ ?_); exact rfl; exact rfl; intro W hnew ho; replace hr := hr.only ho (by omega); replace hi := hi.only ho (by omega); replace hc2 := hc2.only ho (by omega); replace hq := hnew; replace hb := ho.bel _ _ (by omega) hb))
    refine bodyPost_ret (results_cell_row Tryd.results26 _ _ (w.heap.size + 2) _ _ _ _ rfl hq Tryd.underlying31 rfl size_hart) rfl ?_
    exact ⟨rfl, hb⟩

set_option maxHeartbeats 2000000 in
theorem control_54rA (h : H) (ok : h.Ok) (rd s1 s2 : Nat) (im cs : Int) (hrd : rd < 32) (h1 : s1 < 32) (v l : Nat) (hl : l < 4294967296) (h0 : rd ≠ 0) (hR : readN h.c cs l = none) (w : World) :
    Calls Tryd.prog 26 #[.agg h.cells, .agg (I6.cells ⟨54, (rd : Nat), (s1 : Nat), (s2 : Nat), im, cs⟩), .int .u32 v, .int .u32 l] w fun e w' => e = .returned (.agg (trapH h 2 v).cells) ∧ Below w.heap.size w w' := by
  have b1 : (0 : Int) ≤ s1 := by omega
  have b2 : (s1 : Int) < 32 := by omega
  have t1 : ((rd : Int) != 0) = true := by simp; omega
  clear h0
  have HR := hide (fun w => cs_read_bl h.c ok.c cs l hl w)
  rw [hR] at HR
  simp only [readV] at HR
  clear hR
  have HT := hide (fun w => trap_any h ok 2 v (by decide) w)
  rw [show (((2 : Nat) : Int)) = 2 from rfl] at HT
  go_enter Tryd.func26, Tryd.ntmps26
  go_wp2_with (first | ((with_reducible refine bx_h w.heap.size h ?_ ?_ ?_); exact rfl; exact rfl; intro W hr hb hz) | ((with_reducible refine bx_i (w.heap.size + 1) ⟨54, (rd : Nat), (s1 : Nat), (s2 : Nat), im, cs⟩ ?_ ?_ ?_); exact hz.out; exact rfl; intro W hi hb' hz'; replace hr := hr.bl (hz.out ▸ hb'); replace hb := hb.trans (hb'.mono (by omega)); replace hz := hz') | ((with_reducible refine al_h (w.heap.size + 2) ?_ ?_); exact hz.out; intro W hq hb' hz'; replace hr := hr.bl (hz.out ▸ hb'); replace hi := hi.bl (hz.out ▸ hb'); replace hb := hb.trans (hb'.mono (by omega)); replace hz := hz'; have qa : W.cell? ⟨w.heap.size + 1, 0, none⟩ = some (.int .i64 54) := hi.cell 0; have qb : W.cell? ⟨w.heap.size + 1, 1, none⟩ = some (.int .i64 (rd : Nat)) := hi.cell 1; have qc : W.cell? ⟨w.heap.size + 1, 2, none⟩ = some (.int .i64 (s1 : Nat)) := hi.cell 2) | ((with_reducible refine al_c (w.heap.size + 3) ?_ ?_); exact hz.out; intro W hc2 hb' hz'; replace hr := hr.bl (hz.out ▸ hb'); replace hi := hi.bl (hz.out ▸ hb'); replace hq := hq.bl (hz.out ▸ hb'); replace hb := hb.trans (hb'.mono (by omega)); replace hz := hz'; have qa : W.cell? ⟨w.heap.size + 1, 0, none⟩ = some (.int .i64 54) := hi.cell 0; have qb : W.cell? ⟨w.heap.size + 1, 1, none⟩ = some (.int .i64 (rd : Nat)) := hi.cell 1; have qc : W.cell? ⟨w.heap.size + 1, 2, none⟩ = some (.int .i64 (s1 : Nat)) := hi.cell 2) | ((with_reducible refine st_s (w.heap.size + 3) _ h.c hc2 ?_ ?_ ?_); exact rfl; exact rfl; intro W hnew ho; replace hr := hr.only ho (by omega); replace hi := hi.only ho (by omega); replace hq := hq.only ho (by omega); replace hc2 := hnew; replace hb := ho.bel _ _ (by omega) hb; have qa : W.cell? ⟨w.heap.size + 1, 0, none⟩ = some (.int .i64 54) := hi.cell 0; have qb : W.cell? ⟨w.heap.size + 1, 1, none⟩ = some (.int .i64 (rd : Nat)) := hi.cell 1; have qc : W.cell? ⟨w.heap.size + 1, 2, none⟩ = some (.int .i64 (s1 : Nat)) := hi.cell 2) | (go_at_call 52; refine (HR.out _).mono ?_; rintro e W ⟨rfl, hbc⟩; replace hr := hr.bl hbc; replace hi := hi.bl hbc; replace hq := hq.bl hbc; replace hc2 := hc2.bl hbc; replace hb := below_bl rfl hb hbc; have qa : W.cell? ⟨w.heap.size + 1, 0, none⟩ = some (.int .i64 54) := hi.cell 0; have qb : W.cell? ⟨w.heap.size + 1, 1, none⟩ = some (.int .i64 (rd : Nat)) := hi.cell 1; have qc : W.cell? ⟨w.heap.size + 1, 2, none⟩ = some (.int .i64 (s1 : Nat)) := hi.cell 2) | ((with_reducible refine ld_h w.heap.size _ hr ?_ ?_); exact rfl) | ((with_reducible refine ld_c w.heap.size _ hr ?_ ?_); exact rfl) | ((with_reducible refine ld_s (w.heap.size + 3) _ hc2 ?_ ?_); exact rfl) | ((with_reducible refine ld_op (w.heap.size + 1) _ hi ?_ ?_); exact rfl) | ((with_reducible refine ld_rd (w.heap.size + 1) _ hi ?_ ?_); exact rfl) | ((with_reducible refine ld_rs1 (w.heap.size + 1) _ hi ?_ ?_); exact rfl) | ((with_reducible refine ld_csr (w.heap.size + 1) _ hi ?_ ?_); exact rfl) | ((with_reducible refine ld_x w.heap.size s1 _ h1 hr ?_ ?_); exact rfl) | (go_at_call 22; refine (HT.out _).mono ?_; rintro e W ⟨rfl, hbc⟩; replace hr := hr.bl hbc; replace hi := hi.bl hbc; replace hq := hq.bl hbc; replace hc2 := hc2.bl hbc; replace hb := below_bl rfl hb hbc) | ((with_reducible refine st_h (w.heap.size + 2) _ (trapH h 2 v) hq ?_ ?_ ?_); exact rfl; exact rfl; intro W hnew ho; replace hr := hr.only ho (by omega); replace hi := hi.only ho (by omega); replace hc2 := hc2.only ho (by omega); replace hq := hnew; replace hb := ho.bel _ _ (by omega) hb))
  refine bodyPost_ret (results_cell_row Tryd.results26 _ _ (w.heap.size + 2) _ _ _ _ rfl hq Tryd.underlying31 rfl size_hart) rfl ?_
  exact ⟨rfl, hb⟩

set_option maxHeartbeats 2000000 in
theorem control_54rB (h : H) (ok : h.Ok) (rd s1 s2 : Nat) (im cs : Int) (hrd : rd < 32) (h1 : s1 < 32) (v l : Nat) (hl : l < 4294967296) (h0 : rd ≠ 0) (old : Nat) (hold : old < 4294967296) (hR : readN h.c cs l = some old) (c : S8) (k : Nat) (hW : writeN h.c cs (mixN 54 old s1) = (c, k + 1)) (w : World) :
    Calls Tryd.prog 26 #[.agg h.cells, .agg (I6.cells ⟨54, (rd : Nat), (s1 : Nat), (s2 : Nat), im, cs⟩), .int .u32 v, .int .u32 l] w fun e w' => e = .returned (.agg (trapH h 2 v).cells) ∧ Below w.heap.size w w' := by
  have b1 : (0 : Int) ≤ s1 := by omega
  have b2 : (s1 : Int) < 32 := by omega
  have t1 : ((rd : Int) != 0) = true := by simp; omega
  clear h0
  have HR := hide (fun w => cs_read_bl h.c ok.c cs l hl w)
  rw [hR] at HR
  simp only [readV] at HR
  clear hR
  have HM : Hid (∀ z : Int, z = ((s1 : Nat) : Int) → ∀ w, Calls Tryd.prog 54 #[.int .i64 54, .int .u32 old, .int .u32 z] w fun e w' => e = .returned (.int .u32 ((mixN 54 old s1) : Nat)) ∧ w' = w) := hide (fun z hz w => by rw [hz]; exact mixed_54 old s1 hold (by omega : s1 < 4294967296) w)
  have HW := hide (fun w => cs_write_bl h.c ok.c cs (mixN 54 old s1) (mixN_lt 54 hold (by omega : s1 < 4294967296)) w)
  rw [hW] at HW
  simp only [errW] at HW
  clear hW
  generalize (mixN 54 old s1) = M at HM HW
  have HT := hide (fun w => trap_any h ok 2 v (by decide) w)
  rw [show (((2 : Nat) : Int)) = 2 from rfl] at HT
  go_enter Tryd.func26, Tryd.ntmps26
  go_wp2_with (first | ((with_reducible refine bx_h w.heap.size h ?_ ?_ ?_); exact rfl; exact rfl; intro W hr hb hz) | ((with_reducible refine bx_i (w.heap.size + 1) ⟨54, (rd : Nat), (s1 : Nat), (s2 : Nat), im, cs⟩ ?_ ?_ ?_); exact hz.out; exact rfl; intro W hi hb' hz'; replace hr := hr.bl (hz.out ▸ hb'); replace hb := hb.trans (hb'.mono (by omega)); replace hz := hz') | ((with_reducible refine al_h (w.heap.size + 2) ?_ ?_); exact hz.out; intro W hq hb' hz'; replace hr := hr.bl (hz.out ▸ hb'); replace hi := hi.bl (hz.out ▸ hb'); replace hb := hb.trans (hb'.mono (by omega)); replace hz := hz'; have qa : W.cell? ⟨w.heap.size + 1, 0, none⟩ = some (.int .i64 54) := hi.cell 0; have qb : W.cell? ⟨w.heap.size + 1, 1, none⟩ = some (.int .i64 (rd : Nat)) := hi.cell 1; have qc : W.cell? ⟨w.heap.size + 1, 2, none⟩ = some (.int .i64 (s1 : Nat)) := hi.cell 2) | ((with_reducible refine al_c (w.heap.size + 3) ?_ ?_); exact hz.out; intro W hc2 hb' hz'; replace hr := hr.bl (hz.out ▸ hb'); replace hi := hi.bl (hz.out ▸ hb'); replace hq := hq.bl (hz.out ▸ hb'); replace hb := hb.trans (hb'.mono (by omega)); replace hz := hz'; have qa : W.cell? ⟨w.heap.size + 1, 0, none⟩ = some (.int .i64 54) := hi.cell 0; have qb : W.cell? ⟨w.heap.size + 1, 1, none⟩ = some (.int .i64 (rd : Nat)) := hi.cell 1; have qc : W.cell? ⟨w.heap.size + 1, 2, none⟩ = some (.int .i64 (s1 : Nat)) := hi.cell 2) | ((with_reducible refine st_s (w.heap.size + 3) _ h.c hc2 ?_ ?_ ?_); exact rfl; exact rfl; intro W hnew ho; replace hr := hr.only ho (by omega); replace hi := hi.only ho (by omega); replace hq := hq.only ho (by omega); replace hc2 := hnew; replace hb := ho.bel _ _ (by omega) hb; have qa : W.cell? ⟨w.heap.size + 1, 0, none⟩ = some (.int .i64 54) := hi.cell 0; have qb : W.cell? ⟨w.heap.size + 1, 1, none⟩ = some (.int .i64 (rd : Nat)) := hi.cell 1; have qc : W.cell? ⟨w.heap.size + 1, 2, none⟩ = some (.int .i64 (s1 : Nat)) := hi.cell 2) | (go_at_call 52; refine (HR.out _).mono ?_; rintro e W ⟨rfl, hbc⟩; replace hr := hr.bl hbc; replace hi := hi.bl hbc; replace hq := hq.bl hbc; replace hc2 := hc2.bl hbc; replace hb := below_bl rfl hb hbc; have qa : W.cell? ⟨w.heap.size + 1, 0, none⟩ = some (.int .i64 54) := hi.cell 0; have qb : W.cell? ⟨w.heap.size + 1, 1, none⟩ = some (.int .i64 (rd : Nat)) := hi.cell 1; have qc : W.cell? ⟨w.heap.size + 1, 2, none⟩ = some (.int .i64 (s1 : Nat)) := hi.cell 2) | ((with_reducible refine ld_h w.heap.size _ hr ?_ ?_); exact rfl) | ((with_reducible refine ld_c w.heap.size _ hr ?_ ?_); exact rfl) | ((with_reducible refine ld_s (w.heap.size + 3) _ hc2 ?_ ?_); exact rfl) | ((with_reducible refine ld_op (w.heap.size + 1) _ hi ?_ ?_); exact rfl) | ((with_reducible refine ld_rd (w.heap.size + 1) _ hi ?_ ?_); exact rfl) | ((with_reducible refine ld_rs1 (w.heap.size + 1) _ hi ?_ ?_); exact rfl) | ((with_reducible refine ld_csr (w.heap.size + 1) _ hi ?_ ?_); exact rfl) | ((with_reducible refine ld_x w.heap.size s1 _ h1 hr ?_ ?_); exact rfl))
  refine wp_region_held_drew (S := (fun V => RowAt V w.heap.size h.cells 31 ∧ RowAt V (w.heap.size + 1) (I6.cells ⟨54, (rd : Nat), (s1 : Nat), (s2 : Nat), im, cs⟩) 61 ∧ (RowAt V (w.heap.size + 3) h.c.cells 29 ∨ RowAt V (w.heap.size + 3) c.cells 29) ∧ Below w.heap.size w V)) (by kernel_rfl) ?_ (fun hHeld => ?_)
  · exact ⟨hr.dr, hi.dr, Or.inl hc2.dr, hb.drew⟩
  replace hq := hq.dr
  replace hc2 := hc2.dr
  refine wpAnyH_take (i := 1) (oi := ?oi221) (v := .pointer (some ⟨w.heap.size + 1, 5, none⟩)) ?hi221 (by kernel_rfl) (by kernel_rfl) (by kernel_rfl) ?hQ221 ?hy221 (by assumption) ?rest221
  case hi221 => (simp only [List.getElem?_toArray, List.getElem?_cons_zero, List.getElem?_cons_succ]; rfl)
  case hQ221 => exact fun _ _ _ h => h
  case hy221 => exact Or.inl ⟨by rfl, by (intro w hSw; (try dsimp only at hSw); go_simp )⟩
  simp only [Act.put, List.setIfInBounds_toArray, List.set_cons_zero, List.set_cons_succ]
  refine wpAnyH_take (i := 2) (oi := ?oi222) (v := .int .i64 cs) ?hi222 (by kernel_rfl) (by kernel_rfl) (by kernel_rfl) ?hQ222 ?hy222 (by assumption) ?rest222
  case hi222 => (simp only [List.getElem?_toArray, List.getElem?_cons_zero, List.getElem?_cons_succ]; rfl)
  case hQ222 => exact fun _ _ _ h => h
  case hy222 => exact y_int (w.heap.size + 1) 5 _ (fun V hV => (hV.2.1.cell 5).trans rfl) rfl
  simp only [Act.put, List.setIfInBounds_toArray, List.set_cons_zero, List.set_cons_succ]
  refine wpAnyH_take (i := 3) (oi := ?oi223) (v := .pointer (some ⟨w.heap.size + 1, 0, none⟩)) ?hi223 (by kernel_rfl) (by kernel_rfl) (by kernel_rfl) ?hQ223 ?hy223 (by assumption) ?rest223
  case hi223 => (simp only [List.getElem?_toArray, List.getElem?_cons_zero, List.getElem?_cons_succ]; rfl)
  case hQ223 => exact fun _ _ _ h => h
  case hy223 => exact Or.inl ⟨by rfl, by (intro w hSw; (try dsimp only at hSw); go_simp )⟩
  simp only [Act.put, List.setIfInBounds_toArray, List.set_cons_zero, List.set_cons_succ]
  refine wpAnyH_take (i := 4) (oi := ?oi224) (v := .int .i64 54) ?hi224 (by kernel_rfl) (by kernel_rfl) (by kernel_rfl) ?hQ224 ?hy224 (by assumption) ?rest224
  case hi224 => (simp only [List.getElem?_toArray, List.getElem?_cons_zero, List.getElem?_cons_succ]; rfl)
  case hQ224 => exact fun _ _ _ h => h
  case hy224 => exact y_int (w.heap.size + 1) 0 _ (fun V hV => (hV.2.1.cell 0).trans rfl) rfl
  simp only [Act.put, List.setIfInBounds_toArray, List.set_cons_zero, List.set_cons_succ]
  refine wpAnyH_take (i := 5) (oi := ?oi225) (v := .int .u32 (old : Nat)) ?hi225 (by kernel_rfl) (by kernel_rfl) (by kernel_rfl) ?hQ225 ?hy225 (by assumption) ?rest225
  case hi225 => (simp only [List.getElem?_toArray, List.getElem?_cons_zero, List.getElem?_cons_succ]; rfl)
  case hQ225 => exact fun _ _ _ h => h
  case hy225 => exact Or.inl ⟨by rfl, by (intro w hSw; (try dsimp only at hSw); go_simp )⟩
  simp only [Act.put, List.setIfInBounds_toArray, List.set_cons_zero, List.set_cons_succ]
  refine wpAnyH_take (i := 6) (oi := ?oi226) (v := .int .u32 (s1 : Nat)) ?hi226 (by kernel_rfl) (by kernel_rfl) (by kernel_rfl) ?hQ226 ?hy226 (by assumption) ?rest226
  case hi226 => (simp only [List.getElem?_toArray, List.getElem?_cons_zero, List.getElem?_cons_succ]; rfl)
  case hQ226 => exact fun _ _ _ h => h
  case hy226 => exact Or.inl ⟨by rfl, by (intro w hSw; (try dsimp only at hSw); go_simp <;> omega)⟩
  simp only [Act.put, List.setIfInBounds_toArray, List.set_cons_zero, List.set_cons_succ]
  refine wpAnyH_ready (rs := [0, 7]) (by kernel_rfl) (by simp) ?_
  refine AllReadyH.cons (o := ?oi227) ?hi227 (fun K hK => ?b227) (AllReadyH.cons (o := ?oi228) ?hi228 (fun K hK => ?b228) AllReadyH.nil)
  case hi227 => (simp only [List.getElem?_toArray, List.getElem?_cons_zero]; rfl)
  case hi228 => (simp only [List.getElem?_toArray, List.getElem?_cons_zero, List.getElem?_cons_succ]; rfl)
  case b227 =>
    rw [if_pos (by rfl)]
    (with_reducible refine w_ld_s (w.heap.size + 3) h.c hc2 ?_ ?_)
    · exact rfl
    simp only [Act.put, List.setIfInBounds_toArray, List.set_cons_zero, List.set_cons_succ]
    refine hK.out _ _ ?_ (fun hHeld => ?_)
    · exact hHeld
    clear hK K
    refine wpAnyH_ready (rs := [7]) (by kernel_rfl) (by simp) ?_
    refine AllReadyH.cons (o := ?oi229) ?hi229 (fun K hK => ?_) AllReadyH.nil
    case hi229 => (simp only [List.getElem?_toArray, List.getElem?_cons_zero, List.getElem?_cons_succ]; rfl)
    go_simp
    refine (HM.out _ ?_ _).mono ?_
    · first | rfl | omega
    rintro e V ⟨rfl, rfl⟩
    go_simp
    refine hK.out _ _ ?_ (fun hHeld => ?_)
    · exact hHeld
    clear hK K
    refine wpAnyH_ready (rs := [8]) (by kernel_rfl) (by simp) ?_
    refine AllReadyH.cons (o := ?oi230) ?hi230 (fun K hK => ?_) AllReadyH.nil
    case hi230 => (simp only [List.getElem?_toArray, List.getElem?_cons_zero, List.getElem?_cons_succ]; rfl)
    go_simp
    refine (HW.out _).mono ?_
    rintro e V ⟨rfl, hbc⟩
    replace hr := hHeld.1.bl hbc
    replace hi := hHeld.2.1.bl hbc
    replace hb := below_bl rfl hHeld.2.2.2 hbc
    replace hq := hq.bl hbc
    replace hc2 := hc2.bl hbc
    clear hHeld
    go_simp
    refine hK.out _ _ ?_ (fun hHeld => ?_)
    · exact ⟨hr, hi, Or.inl hc2, hb⟩
    clear hK K
    refine wpAnyH_take (i := 9) (oi := ?oi231) (v := .tuple #[.agg c.cells, (.iface 89 (.int .i64 ((k : Int) + 1)))]) ?hi231 (by kernel_rfl) (by kernel_rfl) (by kernel_rfl) ?hQ231 ?hy231 (by assumption) ?rest231
    case hi231 => (simp only [List.getElem?_toArray, List.getElem?_cons_zero, List.getElem?_cons_succ]; rfl)
    case hQ231 => exact fun _ _ _ h => h
    case hy231 => exact Or.inl ⟨by rfl, by (intro w hSw; (try dsimp only at hSw); go_simp )⟩
    simp only [Act.put, List.setIfInBounds_toArray, List.set_cons_zero, List.set_cons_succ]
    refine wpAnyH_take (i := 10) (oi := ?oi232) (v := .agg c.cells) ?hi232 (by kernel_rfl) (by kernel_rfl) (by kernel_rfl) ?hQ232 ?hy232 (by assumption) ?rest232
    case hi232 => (simp only [List.getElem?_toArray, List.getElem?_cons_zero, List.getElem?_cons_succ]; rfl)
    case hQ232 => exact fun _ _ _ h => h
    case hy232 => exact Or.inl ⟨by rfl, by (intro w hSw; (try dsimp only at hSw); go_simp )⟩
    simp only [Act.put, List.setIfInBounds_toArray, List.set_cons_zero, List.set_cons_succ]
    refine wpAnyH_take (i := 11) (oi := ?oi233) (v := (.iface 89 (.int .i64 ((k : Int) + 1)))) ?hi233 (by kernel_rfl) (by kernel_rfl) (by kernel_rfl) ?hQ233 ?hy233 (by assumption) ?rest233
    case hi233 => (simp only [List.getElem?_toArray, List.getElem?_cons_zero, List.getElem?_cons_succ]; rfl)
    case hQ233 => exact fun _ _ _ h => h
    case hy233 => exact Or.inl ⟨by rfl, by (intro w hSw; (try dsimp only at hSw); go_simp )⟩
    simp only [Act.put, List.setIfInBounds_toArray, List.set_cons_zero, List.set_cons_succ]
    refine wpAnyH_ready (rs := [12]) (by kernel_rfl) (by simp) ?_
    refine AllReadyH.cons (o := ?oi234) ?hi234 (fun K hK => ?_) AllReadyH.nil
    case hi234 => (simp only [List.getElem?_toArray, List.getElem?_cons_zero, List.getElem?_cons_succ]; rfl)
    rw [if_pos (by rfl)]
    (with_reducible refine s_s (w.heap.size + 3) _ c hc2 ?_ ?_ ?_)
    · exact rfl
    · exact rfl
    intro W hnew ho
    replace hr := hr.only ho (by omega)
    replace hi := hi.only ho (by omega)
    replace hq := hq.only ho (by omega)
    replace hb := ho.bel _ _ (by omega) hb
    replace hc2 := hnew
    clear hHeld
    refine hK.out _ _ ?_ (fun hHeld => ?_)
    · exact ⟨hr, hi, Or.inr hc2, hb⟩
    clear hK K
    refine wpAnyH_take (i := 13) (oi := ?oi235) (v := (.iface 89 (.int .i64 ((k : Int) + 1)))) ?hi235 (by kernel_rfl) (by kernel_rfl) (by kernel_rfl) ?hQ235 ?hy235 (by assumption) ?rest235
    case hi235 => (simp only [List.getElem?_toArray, List.getElem?_cons_zero, List.getElem?_cons_succ]; rfl)
    case hQ235 => exact fun _ _ _ h => h
    case hy235 => exact Or.inl ⟨by rfl, by (intro w hSw; (try dsimp only at hSw); go_simp )⟩
    simp only [Act.put, List.setIfInBounds_toArray, List.set_cons_zero, List.set_cons_succ]
    refine wpAnyH_done (by kernel_rfl) ?_ _
    have qa : W.cell? ⟨w.heap.size + 1, 0, none⟩ = some (.int .i64 54) := hi.cell 0
    have qb : W.cell? ⟨w.heap.size + 1, 1, none⟩ = some (.int .i64 (rd : Nat)) := hi.cell 1
    have qc : W.cell? ⟨w.heap.size + 1, 2, none⟩ = some (.int .i64 (s1 : Nat)) := hi.cell 2
    go_wp2_with (first | ((with_reducible refine ld_h w.heap.size _ hr ?_ ?_); exact rfl) | ((with_reducible refine ld_c w.heap.size _ hr ?_ ?_); exact rfl) | ((with_reducible refine ld_s (w.heap.size + 3) _ hc2 ?_ ?_); exact rfl) | ((with_reducible refine ld_op (w.heap.size + 1) _ hi ?_ ?_); exact rfl) | ((with_reducible refine ld_rd (w.heap.size + 1) _ hi ?_ ?_); exact rfl) | ((with_reducible refine ld_rs1 (w.heap.size + 1) _ hi ?_ ?_); exact rfl) | ((with_reducible refine ld_csr (w.heap.size + 1) _ hi ?_ ?_); exact rfl) | ((with_reducible refine ld_x w.heap.size s1 _ h1 hr ?_ ?_); exact rfl) | (go_at_call 22; refine (HT.out _).mono ?_; rintro e W ⟨rfl, hbc⟩; replace hr := hr.bl hbc; replace hi := hi.bl hbc; replace hq := hq.bl hbc; replace hc2 := hc2.bl hbc; replace hb := below_bl rfl hb hbc) | ((with_reducible refine st_h (w.heap.size + 2) _ (trapH h 2 v) hq ?_ ?_ ?_); exact rfl; exact rfl; intro W hnew ho; replace hr := hr.only ho (by omega); replace hi := hi.only ho (by omega); replace hc2 := hc2.only ho (by omega); replace hq := hnew; replace hb := ho.bel _ _ (by omega) hb))
    refine bodyPost_ret (results_cell_row Tryd.results26 _ _ (w.heap.size + 2) _ _ _ _ rfl hq Tryd.underlying31 rfl size_hart) rfl ?_
    exact ⟨rfl, hb⟩
  case b228 =>
    go_simp
    refine (HM.out _ ?_ _).mono ?_
    · first | rfl | omega
    rintro e V ⟨rfl, rfl⟩
    go_simp
    refine hK.out _ _ ?_ (fun hHeld => ?_)
    · exact hHeld
    clear hK K
    refine wpAnyH_ready (rs := [0]) (by kernel_rfl) (by simp) ?_
    refine AllReadyH.cons (o := ?oi236) ?hi236 (fun K hK => ?_) AllReadyH.nil
    case hi236 => (simp only [List.getElem?_toArray, List.getElem?_cons_zero]; rfl)
    rw [if_pos (by rfl)]
    (with_reducible refine w_ld_s (w.heap.size + 3) h.c hc2 ?_ ?_)
    · exact rfl
    simp only [Act.put, List.setIfInBounds_toArray, List.set_cons_zero, List.set_cons_succ]
    refine hK.out _ _ ?_ (fun hHeld => ?_)
    · exact hHeld
    clear hK K
    refine wpAnyH_ready (rs := [8]) (by kernel_rfl) (by simp) ?_
    refine AllReadyH.cons (o := ?oi237) ?hi237 (fun K hK => ?_) AllReadyH.nil
    case hi237 => (simp only [List.getElem?_toArray, List.getElem?_cons_zero, List.getElem?_cons_succ]; rfl)
    go_simp
    refine (HW.out _).mono ?_
    rintro e V ⟨rfl, hbc⟩
    replace hr := hHeld.1.bl hbc
    replace hi := hHeld.2.1.bl hbc
    replace hb := below_bl rfl hHeld.2.2.2 hbc
    replace hq := hq.bl hbc
    replace hc2 := hc2.bl hbc
    clear hHeld
    go_simp
    refine hK.out _ _ ?_ (fun hHeld => ?_)
    · exact ⟨hr, hi, Or.inl hc2, hb⟩
    clear hK K
    refine wpAnyH_take (i := 9) (oi := ?oi238) (v := .tuple #[.agg c.cells, (.iface 89 (.int .i64 ((k : Int) + 1)))]) ?hi238 (by kernel_rfl) (by kernel_rfl) (by kernel_rfl) ?hQ238 ?hy238 (by assumption) ?rest238
    case hi238 => (simp only [List.getElem?_toArray, List.getElem?_cons_zero, List.getElem?_cons_succ]; rfl)
    case hQ238 => exact fun _ _ _ h => h
    case hy238 => exact Or.inl ⟨by rfl, by (intro w hSw; (try dsimp only at hSw); go_simp )⟩
    simp only [Act.put, List.setIfInBounds_toArray, List.set_cons_zero, List.set_cons_succ]
    refine wpAnyH_take (i := 10) (oi := ?oi239) (v := .agg c.cells) ?hi239 (by kernel_rfl) (by kernel_rfl) (by kernel_rfl) ?hQ239 ?hy239 (by assumption) ?rest239
    case hi239 => (simp only [List.getElem?_toArray, List.getElem?_cons_zero, List.getElem?_cons_succ]; rfl)
    case hQ239 => exact fun _ _ _ h => h
    case hy239 => exact Or.inl ⟨by rfl, by (intro w hSw; (try dsimp only at hSw); go_simp )⟩
    simp only [Act.put, List.setIfInBounds_toArray, List.set_cons_zero, List.set_cons_succ]
    refine wpAnyH_take (i := 11) (oi := ?oi240) (v := (.iface 89 (.int .i64 ((k : Int) + 1)))) ?hi240 (by kernel_rfl) (by kernel_rfl) (by kernel_rfl) ?hQ240 ?hy240 (by assumption) ?rest240
    case hi240 => (simp only [List.getElem?_toArray, List.getElem?_cons_zero, List.getElem?_cons_succ]; rfl)
    case hQ240 => exact fun _ _ _ h => h
    case hy240 => exact Or.inl ⟨by rfl, by (intro w hSw; (try dsimp only at hSw); go_simp )⟩
    simp only [Act.put, List.setIfInBounds_toArray, List.set_cons_zero, List.set_cons_succ]
    refine wpAnyH_ready (rs := [12]) (by kernel_rfl) (by simp) ?_
    refine AllReadyH.cons (o := ?oi241) ?hi241 (fun K hK => ?_) AllReadyH.nil
    case hi241 => (simp only [List.getElem?_toArray, List.getElem?_cons_zero, List.getElem?_cons_succ]; rfl)
    rw [if_pos (by rfl)]
    (with_reducible refine s_s (w.heap.size + 3) _ c hc2 ?_ ?_ ?_)
    · exact rfl
    · exact rfl
    intro W hnew ho
    replace hr := hr.only ho (by omega)
    replace hi := hi.only ho (by omega)
    replace hq := hq.only ho (by omega)
    replace hb := ho.bel _ _ (by omega) hb
    replace hc2 := hnew
    clear hHeld
    refine hK.out _ _ ?_ (fun hHeld => ?_)
    · exact ⟨hr, hi, Or.inr hc2, hb⟩
    clear hK K
    refine wpAnyH_take (i := 13) (oi := ?oi242) (v := (.iface 89 (.int .i64 ((k : Int) + 1)))) ?hi242 (by kernel_rfl) (by kernel_rfl) (by kernel_rfl) ?hQ242 ?hy242 (by assumption) ?rest242
    case hi242 => (simp only [List.getElem?_toArray, List.getElem?_cons_zero, List.getElem?_cons_succ]; rfl)
    case hQ242 => exact fun _ _ _ h => h
    case hy242 => exact Or.inl ⟨by rfl, by (intro w hSw; (try dsimp only at hSw); go_simp )⟩
    simp only [Act.put, List.setIfInBounds_toArray, List.set_cons_zero, List.set_cons_succ]
    refine wpAnyH_done (by kernel_rfl) ?_ _
    have qa : W.cell? ⟨w.heap.size + 1, 0, none⟩ = some (.int .i64 54) := hi.cell 0
    have qb : W.cell? ⟨w.heap.size + 1, 1, none⟩ = some (.int .i64 (rd : Nat)) := hi.cell 1
    have qc : W.cell? ⟨w.heap.size + 1, 2, none⟩ = some (.int .i64 (s1 : Nat)) := hi.cell 2
    go_wp2_with (first | ((with_reducible refine ld_h w.heap.size _ hr ?_ ?_); exact rfl) | ((with_reducible refine ld_c w.heap.size _ hr ?_ ?_); exact rfl) | ((with_reducible refine ld_s (w.heap.size + 3) _ hc2 ?_ ?_); exact rfl) | ((with_reducible refine ld_op (w.heap.size + 1) _ hi ?_ ?_); exact rfl) | ((with_reducible refine ld_rd (w.heap.size + 1) _ hi ?_ ?_); exact rfl) | ((with_reducible refine ld_rs1 (w.heap.size + 1) _ hi ?_ ?_); exact rfl) | ((with_reducible refine ld_csr (w.heap.size + 1) _ hi ?_ ?_); exact rfl) | ((with_reducible refine ld_x w.heap.size s1 _ h1 hr ?_ ?_); exact rfl) | (go_at_call 22; refine (HT.out _).mono ?_; rintro e W ⟨rfl, hbc⟩; replace hr := hr.bl hbc; replace hi := hi.bl hbc; replace hq := hq.bl hbc; replace hc2 := hc2.bl hbc; replace hb := below_bl rfl hb hbc) | ((with_reducible refine st_h (w.heap.size + 2) _ (trapH h 2 v) hq ?_ ?_ ?_); exact rfl; exact rfl; intro W hnew ho; replace hr := hr.only ho (by omega); replace hi := hi.only ho (by omega); replace hc2 := hc2.only ho (by omega); replace hq := hnew; replace hb := ho.bel _ _ (by omega) hb))
    refine bodyPost_ret (results_cell_row Tryd.results26 _ _ (w.heap.size + 2) _ _ _ _ rfl hq Tryd.underlying31 rfl size_hart) rfl ?_
    exact ⟨rfl, hb⟩

set_option maxHeartbeats 2000000 in
theorem control_54rC (h : H) (ok : h.Ok) (rd s1 s2 : Nat) (im cs : Int) (hrd : rd < 32) (h1 : s1 < 32) (v l : Nat) (hl : l < 4294967296) (h0 : rd ≠ 0) (old : Nat) (hold : old < 4294967296) (hR : readN h.c cs l = some old) (c : S8) (hc : c.Ok) (hW : writeN h.c cs (mixN 54 old s1) = (c, 0)) (w : World) :
    Calls Tryd.prog 26 #[.agg h.cells, .agg (I6.cells ⟨54, (rd : Nat), (s1 : Nat), (s2 : Nat), im, cs⟩), .int .u32 v, .int .u32 l] w fun e w' => e = .returned (.agg (nextH (writeH (withC h c) rd old)).cells) ∧ Below w.heap.size w w' := by
  have b1 : (0 : Int) ≤ s1 := by omega
  have b2 : (s1 : Int) < 32 := by omega
  have t1 : ((rd : Int) != 0) = true := by simp; omega
  clear h0
  have HR := hide (fun w => cs_read_bl h.c ok.c cs l hl w)
  rw [hR] at HR
  simp only [readV] at HR
  clear hR
  have HM : Hid (∀ z : Int, z = ((s1 : Nat) : Int) → ∀ w, Calls Tryd.prog 54 #[.int .i64 54, .int .u32 old, .int .u32 z] w fun e w' => e = .returned (.int .u32 ((mixN 54 old s1) : Nat)) ∧ w' = w) := hide (fun z hz w => by rw [hz]; exact mixed_54 old s1 hold (by omega : s1 < 4294967296) w)
  have HW := hide (fun w => cs_write_bl h.c ok.c cs (mixN 54 old s1) (mixN_lt 54 hold (by omega : s1 < 4294967296)) w)
  rw [hW] at HW
  simp only [errW] at HW
  clear hW
  generalize (mixN 54 old s1) = M at HM HW
  have ok' : H.Ok (withC h c) := ⟨ok.pc, ok.x, hc⟩
  have HWr := hide (fun w => write_any (withC h c) rd hrd old w)
  have HN := hide (fun w => next_any _ (writeH_ok ok' rd hold) w)
  go_enter Tryd.func26, Tryd.ntmps26
  go_wp2_with (first | ((with_reducible refine bx_h w.heap.size h ?_ ?_ ?_); exact rfl; exact rfl; intro W hr hb hz) | ((with_reducible refine bx_i (w.heap.size + 1) ⟨54, (rd : Nat), (s1 : Nat), (s2 : Nat), im, cs⟩ ?_ ?_ ?_); exact hz.out; exact rfl; intro W hi hb' hz'; replace hr := hr.bl (hz.out ▸ hb'); replace hb := hb.trans (hb'.mono (by omega)); replace hz := hz') | ((with_reducible refine al_h (w.heap.size + 2) ?_ ?_); exact hz.out; intro W hq hb' hz'; replace hr := hr.bl (hz.out ▸ hb'); replace hi := hi.bl (hz.out ▸ hb'); replace hb := hb.trans (hb'.mono (by omega)); replace hz := hz'; have qa : W.cell? ⟨w.heap.size + 1, 0, none⟩ = some (.int .i64 54) := hi.cell 0; have qb : W.cell? ⟨w.heap.size + 1, 1, none⟩ = some (.int .i64 (rd : Nat)) := hi.cell 1; have qc : W.cell? ⟨w.heap.size + 1, 2, none⟩ = some (.int .i64 (s1 : Nat)) := hi.cell 2) | ((with_reducible refine al_c (w.heap.size + 3) ?_ ?_); exact hz.out; intro W hc2 hb' hz'; replace hr := hr.bl (hz.out ▸ hb'); replace hi := hi.bl (hz.out ▸ hb'); replace hq := hq.bl (hz.out ▸ hb'); replace hb := hb.trans (hb'.mono (by omega)); replace hz := hz'; have qa : W.cell? ⟨w.heap.size + 1, 0, none⟩ = some (.int .i64 54) := hi.cell 0; have qb : W.cell? ⟨w.heap.size + 1, 1, none⟩ = some (.int .i64 (rd : Nat)) := hi.cell 1; have qc : W.cell? ⟨w.heap.size + 1, 2, none⟩ = some (.int .i64 (s1 : Nat)) := hi.cell 2) | ((with_reducible refine st_s (w.heap.size + 3) _ h.c hc2 ?_ ?_ ?_); exact rfl; exact rfl; intro W hnew ho; replace hr := hr.only ho (by omega); replace hi := hi.only ho (by omega); replace hq := hq.only ho (by omega); replace hc2 := hnew; replace hb := ho.bel _ _ (by omega) hb; have qa : W.cell? ⟨w.heap.size + 1, 0, none⟩ = some (.int .i64 54) := hi.cell 0; have qb : W.cell? ⟨w.heap.size + 1, 1, none⟩ = some (.int .i64 (rd : Nat)) := hi.cell 1; have qc : W.cell? ⟨w.heap.size + 1, 2, none⟩ = some (.int .i64 (s1 : Nat)) := hi.cell 2) | (go_at_call 52; refine (HR.out _).mono ?_; rintro e W ⟨rfl, hbc⟩; replace hr := hr.bl hbc; replace hi := hi.bl hbc; replace hq := hq.bl hbc; replace hc2 := hc2.bl hbc; replace hb := below_bl rfl hb hbc; have qa : W.cell? ⟨w.heap.size + 1, 0, none⟩ = some (.int .i64 54) := hi.cell 0; have qb : W.cell? ⟨w.heap.size + 1, 1, none⟩ = some (.int .i64 (rd : Nat)) := hi.cell 1; have qc : W.cell? ⟨w.heap.size + 1, 2, none⟩ = some (.int .i64 (s1 : Nat)) := hi.cell 2) | ((with_reducible refine ld_h w.heap.size _ hr ?_ ?_); exact rfl) | ((with_reducible refine ld_c w.heap.size _ hr ?_ ?_); exact rfl) | ((with_reducible refine ld_s (w.heap.size + 3) _ hc2 ?_ ?_); exact rfl) | ((with_reducible refine ld_op (w.heap.size + 1) _ hi ?_ ?_); exact rfl) | ((with_reducible refine ld_rd (w.heap.size + 1) _ hi ?_ ?_); exact rfl) | ((with_reducible refine ld_rs1 (w.heap.size + 1) _ hi ?_ ?_); exact rfl) | ((with_reducible refine ld_csr (w.heap.size + 1) _ hi ?_ ?_); exact rfl) | ((with_reducible refine ld_x w.heap.size s1 _ h1 hr ?_ ?_); exact rfl))
  refine wp_region_held_drew (S := (fun V => RowAt V w.heap.size h.cells 31 ∧ RowAt V (w.heap.size + 1) (I6.cells ⟨54, (rd : Nat), (s1 : Nat), (s2 : Nat), im, cs⟩) 61 ∧ (RowAt V (w.heap.size + 3) h.c.cells 29 ∨ RowAt V (w.heap.size + 3) c.cells 29) ∧ Below w.heap.size w V)) (by kernel_rfl) ?_ (fun hHeld => ?_)
  · exact ⟨hr.dr, hi.dr, Or.inl hc2.dr, hb.drew⟩
  replace hq := hq.dr
  replace hc2 := hc2.dr
  refine wpAnyH_take (i := 1) (oi := ?oi243) (v := .pointer (some ⟨w.heap.size + 1, 5, none⟩)) ?hi243 (by kernel_rfl) (by kernel_rfl) (by kernel_rfl) ?hQ243 ?hy243 (by assumption) ?rest243
  case hi243 => (simp only [List.getElem?_toArray, List.getElem?_cons_zero, List.getElem?_cons_succ]; rfl)
  case hQ243 => exact fun _ _ _ h => h
  case hy243 => exact Or.inl ⟨by rfl, by (intro w hSw; (try dsimp only at hSw); go_simp )⟩
  simp only [Act.put, List.setIfInBounds_toArray, List.set_cons_zero, List.set_cons_succ]
  refine wpAnyH_take (i := 2) (oi := ?oi244) (v := .int .i64 cs) ?hi244 (by kernel_rfl) (by kernel_rfl) (by kernel_rfl) ?hQ244 ?hy244 (by assumption) ?rest244
  case hi244 => (simp only [List.getElem?_toArray, List.getElem?_cons_zero, List.getElem?_cons_succ]; rfl)
  case hQ244 => exact fun _ _ _ h => h
  case hy244 => exact y_int (w.heap.size + 1) 5 _ (fun V hV => (hV.2.1.cell 5).trans rfl) rfl
  simp only [Act.put, List.setIfInBounds_toArray, List.set_cons_zero, List.set_cons_succ]
  refine wpAnyH_take (i := 3) (oi := ?oi245) (v := .pointer (some ⟨w.heap.size + 1, 0, none⟩)) ?hi245 (by kernel_rfl) (by kernel_rfl) (by kernel_rfl) ?hQ245 ?hy245 (by assumption) ?rest245
  case hi245 => (simp only [List.getElem?_toArray, List.getElem?_cons_zero, List.getElem?_cons_succ]; rfl)
  case hQ245 => exact fun _ _ _ h => h
  case hy245 => exact Or.inl ⟨by rfl, by (intro w hSw; (try dsimp only at hSw); go_simp )⟩
  simp only [Act.put, List.setIfInBounds_toArray, List.set_cons_zero, List.set_cons_succ]
  refine wpAnyH_take (i := 4) (oi := ?oi246) (v := .int .i64 54) ?hi246 (by kernel_rfl) (by kernel_rfl) (by kernel_rfl) ?hQ246 ?hy246 (by assumption) ?rest246
  case hi246 => (simp only [List.getElem?_toArray, List.getElem?_cons_zero, List.getElem?_cons_succ]; rfl)
  case hQ246 => exact fun _ _ _ h => h
  case hy246 => exact y_int (w.heap.size + 1) 0 _ (fun V hV => (hV.2.1.cell 0).trans rfl) rfl
  simp only [Act.put, List.setIfInBounds_toArray, List.set_cons_zero, List.set_cons_succ]
  refine wpAnyH_take (i := 5) (oi := ?oi247) (v := .int .u32 (old : Nat)) ?hi247 (by kernel_rfl) (by kernel_rfl) (by kernel_rfl) ?hQ247 ?hy247 (by assumption) ?rest247
  case hi247 => (simp only [List.getElem?_toArray, List.getElem?_cons_zero, List.getElem?_cons_succ]; rfl)
  case hQ247 => exact fun _ _ _ h => h
  case hy247 => exact Or.inl ⟨by rfl, by (intro w hSw; (try dsimp only at hSw); go_simp )⟩
  simp only [Act.put, List.setIfInBounds_toArray, List.set_cons_zero, List.set_cons_succ]
  refine wpAnyH_take (i := 6) (oi := ?oi248) (v := .int .u32 (s1 : Nat)) ?hi248 (by kernel_rfl) (by kernel_rfl) (by kernel_rfl) ?hQ248 ?hy248 (by assumption) ?rest248
  case hi248 => (simp only [List.getElem?_toArray, List.getElem?_cons_zero, List.getElem?_cons_succ]; rfl)
  case hQ248 => exact fun _ _ _ h => h
  case hy248 => exact Or.inl ⟨by rfl, by (intro w hSw; (try dsimp only at hSw); go_simp <;> omega)⟩
  simp only [Act.put, List.setIfInBounds_toArray, List.set_cons_zero, List.set_cons_succ]
  refine wpAnyH_ready (rs := [0, 7]) (by kernel_rfl) (by simp) ?_
  refine AllReadyH.cons (o := ?oi249) ?hi249 (fun K hK => ?b249) (AllReadyH.cons (o := ?oi250) ?hi250 (fun K hK => ?b250) AllReadyH.nil)
  case hi249 => (simp only [List.getElem?_toArray, List.getElem?_cons_zero]; rfl)
  case hi250 => (simp only [List.getElem?_toArray, List.getElem?_cons_zero, List.getElem?_cons_succ]; rfl)
  case b249 =>
    rw [if_pos (by rfl)]
    (with_reducible refine w_ld_s (w.heap.size + 3) h.c hc2 ?_ ?_)
    · exact rfl
    simp only [Act.put, List.setIfInBounds_toArray, List.set_cons_zero, List.set_cons_succ]
    refine hK.out _ _ ?_ (fun hHeld => ?_)
    · exact hHeld
    clear hK K
    refine wpAnyH_ready (rs := [7]) (by kernel_rfl) (by simp) ?_
    refine AllReadyH.cons (o := ?oi251) ?hi251 (fun K hK => ?_) AllReadyH.nil
    case hi251 => (simp only [List.getElem?_toArray, List.getElem?_cons_zero, List.getElem?_cons_succ]; rfl)
    go_simp
    refine (HM.out _ ?_ _).mono ?_
    · first | rfl | omega
    rintro e V ⟨rfl, rfl⟩
    go_simp
    refine hK.out _ _ ?_ (fun hHeld => ?_)
    · exact hHeld
    clear hK K
    refine wpAnyH_ready (rs := [8]) (by kernel_rfl) (by simp) ?_
    refine AllReadyH.cons (o := ?oi252) ?hi252 (fun K hK => ?_) AllReadyH.nil
    case hi252 => (simp only [List.getElem?_toArray, List.getElem?_cons_zero, List.getElem?_cons_succ]; rfl)
    go_simp
    refine (HW.out _).mono ?_
    rintro e V ⟨rfl, hbc⟩
    replace hr := hHeld.1.bl hbc
    replace hi := hHeld.2.1.bl hbc
    replace hb := below_bl rfl hHeld.2.2.2 hbc
    replace hq := hq.bl hbc
    replace hc2 := hc2.bl hbc
    clear hHeld
    go_simp
    refine hK.out _ _ ?_ (fun hHeld => ?_)
    · exact ⟨hr, hi, Or.inl hc2, hb⟩
    clear hK K
    refine wpAnyH_take (i := 9) (oi := ?oi253) (v := .tuple #[.agg c.cells, .nilIface]) ?hi253 (by kernel_rfl) (by kernel_rfl) (by kernel_rfl) ?hQ253 ?hy253 (by assumption) ?rest253
    case hi253 => (simp only [List.getElem?_toArray, List.getElem?_cons_zero, List.getElem?_cons_succ]; rfl)
    case hQ253 => exact fun _ _ _ h => h
    case hy253 => exact Or.inl ⟨by rfl, by (intro w hSw; (try dsimp only at hSw); go_simp )⟩
    simp only [Act.put, List.setIfInBounds_toArray, List.set_cons_zero, List.set_cons_succ]
    refine wpAnyH_take (i := 10) (oi := ?oi254) (v := .agg c.cells) ?hi254 (by kernel_rfl) (by kernel_rfl) (by kernel_rfl) ?hQ254 ?hy254 (by assumption) ?rest254
    case hi254 => (simp only [List.getElem?_toArray, List.getElem?_cons_zero, List.getElem?_cons_succ]; rfl)
    case hQ254 => exact fun _ _ _ h => h
    case hy254 => exact Or.inl ⟨by rfl, by (intro w hSw; (try dsimp only at hSw); go_simp )⟩
    simp only [Act.put, List.setIfInBounds_toArray, List.set_cons_zero, List.set_cons_succ]
    refine wpAnyH_take (i := 11) (oi := ?oi255) (v := .nilIface) ?hi255 (by kernel_rfl) (by kernel_rfl) (by kernel_rfl) ?hQ255 ?hy255 (by assumption) ?rest255
    case hi255 => (simp only [List.getElem?_toArray, List.getElem?_cons_zero, List.getElem?_cons_succ]; rfl)
    case hQ255 => exact fun _ _ _ h => h
    case hy255 => exact Or.inl ⟨by rfl, by (intro w hSw; (try dsimp only at hSw); go_simp )⟩
    simp only [Act.put, List.setIfInBounds_toArray, List.set_cons_zero, List.set_cons_succ]
    refine wpAnyH_ready (rs := [12]) (by kernel_rfl) (by simp) ?_
    refine AllReadyH.cons (o := ?oi256) ?hi256 (fun K hK => ?_) AllReadyH.nil
    case hi256 => (simp only [List.getElem?_toArray, List.getElem?_cons_zero, List.getElem?_cons_succ]; rfl)
    rw [if_pos (by rfl)]
    (with_reducible refine s_s (w.heap.size + 3) _ c hc2 ?_ ?_ ?_)
    · exact rfl
    · exact rfl
    intro W hnew ho
    replace hr := hr.only ho (by omega)
    replace hi := hi.only ho (by omega)
    replace hq := hq.only ho (by omega)
    replace hb := ho.bel _ _ (by omega) hb
    replace hc2 := hnew
    clear hHeld
    refine hK.out _ _ ?_ (fun hHeld => ?_)
    · exact ⟨hr, hi, Or.inr hc2, hb⟩
    clear hK K
    refine wpAnyH_take (i := 13) (oi := ?oi257) (v := .nilIface) ?hi257 (by kernel_rfl) (by kernel_rfl) (by kernel_rfl) ?hQ257 ?hy257 (by assumption) ?rest257
    case hi257 => (simp only [List.getElem?_toArray, List.getElem?_cons_zero, List.getElem?_cons_succ]; rfl)
    case hQ257 => exact fun _ _ _ h => h
    case hy257 => exact Or.inl ⟨by rfl, by (intro w hSw; (try dsimp only at hSw); go_simp )⟩
    simp only [Act.put, List.setIfInBounds_toArray, List.set_cons_zero, List.set_cons_succ]
    refine wpAnyH_done (by kernel_rfl) ?_ _
    have qa : W.cell? ⟨w.heap.size + 1, 0, none⟩ = some (.int .i64 54) := hi.cell 0
    have qb : W.cell? ⟨w.heap.size + 1, 1, none⟩ = some (.int .i64 (rd : Nat)) := hi.cell 1
    have qc : W.cell? ⟨w.heap.size + 1, 2, none⟩ = some (.int .i64 (s1 : Nat)) := hi.cell 2
    go_wp2_with (first | ((with_reducible refine ld_h w.heap.size _ hr ?_ ?_); exact rfl) | ((with_reducible refine ld_c w.heap.size _ hr ?_ ?_); exact rfl) | ((with_reducible refine ld_s (w.heap.size + 3) _ hc2 ?_ ?_); exact rfl) | ((with_reducible refine ld_op (w.heap.size + 1) _ hi ?_ ?_); exact rfl) | ((with_reducible refine ld_rd (w.heap.size + 1) _ hi ?_ ?_); exact rfl) | ((with_reducible refine ld_rs1 (w.heap.size + 1) _ hi ?_ ?_); exact rfl) | ((with_reducible refine ld_csr (w.heap.size + 1) _ hi ?_ ?_); exact rfl) | ((with_reducible refine ld_x w.heap.size s1 _ h1 hr ?_ ?_); exact rfl) | ((with_reducible refine st_c w.heap.size _ c hr ?_ ?_ ?_); exact rfl; exact rfl; intro W hnew ho; replace hi := hi.only ho (by omega); replace hq := hq.only ho (by omega); replace hc2 := hc2.only ho (by omega); replace hr := hnew; replace hb := ho.bel _ _ (by omega) hb) | (go_at_call 46; refine (HWr.out _).mono ?_; rintro e W ⟨rfl, hbc⟩; replace hr := hr.bl hbc; replace hi := hi.bl hbc; replace hq := hq.bl hbc; replace hc2 := hc2.bl hbc; replace hb := below_bl rfl hb hbc) | (go_at_call 45; refine (HN.out _).mono ?_; rintro e W ⟨rfl, hbc⟩; replace hr := hr.bl hbc; replace hi := hi.bl hbc; replace hq := hq.bl hbc; replace hc2 := hc2.bl hbc; replace hb := below_bl rfl hb hbc) | ((with_reducible refine st_h (w.heap.size + 2) _ (nextH (writeH (withC h c) rd old)) hq ?_ ?_ ?_); exact rfl; exact rfl; intro W hnew ho; replace hr := hr.only ho (by omega); replace hi := hi.only ho (by omega); replace hc2 := hc2.only ho (by omega); replace hq := hnew; replace hb := ho.bel _ _ (by omega) hb))
    refine bodyPost_ret (results_cell_row Tryd.results26 _ _ (w.heap.size + 2) _ _ _ _ rfl hq Tryd.underlying31 rfl size_hart) rfl ?_
    exact ⟨rfl, hb⟩
  case b250 =>
    go_simp
    refine (HM.out _ ?_ _).mono ?_
    · first | rfl | omega
    rintro e V ⟨rfl, rfl⟩
    go_simp
    refine hK.out _ _ ?_ (fun hHeld => ?_)
    · exact hHeld
    clear hK K
    refine wpAnyH_ready (rs := [0]) (by kernel_rfl) (by simp) ?_
    refine AllReadyH.cons (o := ?oi258) ?hi258 (fun K hK => ?_) AllReadyH.nil
    case hi258 => (simp only [List.getElem?_toArray, List.getElem?_cons_zero]; rfl)
    rw [if_pos (by rfl)]
    (with_reducible refine w_ld_s (w.heap.size + 3) h.c hc2 ?_ ?_)
    · exact rfl
    simp only [Act.put, List.setIfInBounds_toArray, List.set_cons_zero, List.set_cons_succ]
    refine hK.out _ _ ?_ (fun hHeld => ?_)
    · exact hHeld
    clear hK K
    refine wpAnyH_ready (rs := [8]) (by kernel_rfl) (by simp) ?_
    refine AllReadyH.cons (o := ?oi259) ?hi259 (fun K hK => ?_) AllReadyH.nil
    case hi259 => (simp only [List.getElem?_toArray, List.getElem?_cons_zero, List.getElem?_cons_succ]; rfl)
    go_simp
    refine (HW.out _).mono ?_
    rintro e V ⟨rfl, hbc⟩
    replace hr := hHeld.1.bl hbc
    replace hi := hHeld.2.1.bl hbc
    replace hb := below_bl rfl hHeld.2.2.2 hbc
    replace hq := hq.bl hbc
    replace hc2 := hc2.bl hbc
    clear hHeld
    go_simp
    refine hK.out _ _ ?_ (fun hHeld => ?_)
    · exact ⟨hr, hi, Or.inl hc2, hb⟩
    clear hK K
    refine wpAnyH_take (i := 9) (oi := ?oi260) (v := .tuple #[.agg c.cells, .nilIface]) ?hi260 (by kernel_rfl) (by kernel_rfl) (by kernel_rfl) ?hQ260 ?hy260 (by assumption) ?rest260
    case hi260 => (simp only [List.getElem?_toArray, List.getElem?_cons_zero, List.getElem?_cons_succ]; rfl)
    case hQ260 => exact fun _ _ _ h => h
    case hy260 => exact Or.inl ⟨by rfl, by (intro w hSw; (try dsimp only at hSw); go_simp )⟩
    simp only [Act.put, List.setIfInBounds_toArray, List.set_cons_zero, List.set_cons_succ]
    refine wpAnyH_take (i := 10) (oi := ?oi261) (v := .agg c.cells) ?hi261 (by kernel_rfl) (by kernel_rfl) (by kernel_rfl) ?hQ261 ?hy261 (by assumption) ?rest261
    case hi261 => (simp only [List.getElem?_toArray, List.getElem?_cons_zero, List.getElem?_cons_succ]; rfl)
    case hQ261 => exact fun _ _ _ h => h
    case hy261 => exact Or.inl ⟨by rfl, by (intro w hSw; (try dsimp only at hSw); go_simp )⟩
    simp only [Act.put, List.setIfInBounds_toArray, List.set_cons_zero, List.set_cons_succ]
    refine wpAnyH_take (i := 11) (oi := ?oi262) (v := .nilIface) ?hi262 (by kernel_rfl) (by kernel_rfl) (by kernel_rfl) ?hQ262 ?hy262 (by assumption) ?rest262
    case hi262 => (simp only [List.getElem?_toArray, List.getElem?_cons_zero, List.getElem?_cons_succ]; rfl)
    case hQ262 => exact fun _ _ _ h => h
    case hy262 => exact Or.inl ⟨by rfl, by (intro w hSw; (try dsimp only at hSw); go_simp )⟩
    simp only [Act.put, List.setIfInBounds_toArray, List.set_cons_zero, List.set_cons_succ]
    refine wpAnyH_ready (rs := [12]) (by kernel_rfl) (by simp) ?_
    refine AllReadyH.cons (o := ?oi263) ?hi263 (fun K hK => ?_) AllReadyH.nil
    case hi263 => (simp only [List.getElem?_toArray, List.getElem?_cons_zero, List.getElem?_cons_succ]; rfl)
    rw [if_pos (by rfl)]
    (with_reducible refine s_s (w.heap.size + 3) _ c hc2 ?_ ?_ ?_)
    · exact rfl
    · exact rfl
    intro W hnew ho
    replace hr := hr.only ho (by omega)
    replace hi := hi.only ho (by omega)
    replace hq := hq.only ho (by omega)
    replace hb := ho.bel _ _ (by omega) hb
    replace hc2 := hnew
    clear hHeld
    refine hK.out _ _ ?_ (fun hHeld => ?_)
    · exact ⟨hr, hi, Or.inr hc2, hb⟩
    clear hK K
    refine wpAnyH_take (i := 13) (oi := ?oi264) (v := .nilIface) ?hi264 (by kernel_rfl) (by kernel_rfl) (by kernel_rfl) ?hQ264 ?hy264 (by assumption) ?rest264
    case hi264 => (simp only [List.getElem?_toArray, List.getElem?_cons_zero, List.getElem?_cons_succ]; rfl)
    case hQ264 => exact fun _ _ _ h => h
    case hy264 => exact Or.inl ⟨by rfl, by (intro w hSw; (try dsimp only at hSw); go_simp )⟩
    simp only [Act.put, List.setIfInBounds_toArray, List.set_cons_zero, List.set_cons_succ]
    refine wpAnyH_done (by kernel_rfl) ?_ _
    have qa : W.cell? ⟨w.heap.size + 1, 0, none⟩ = some (.int .i64 54) := hi.cell 0
    have qb : W.cell? ⟨w.heap.size + 1, 1, none⟩ = some (.int .i64 (rd : Nat)) := hi.cell 1
    have qc : W.cell? ⟨w.heap.size + 1, 2, none⟩ = some (.int .i64 (s1 : Nat)) := hi.cell 2
    go_wp2_with (first | ((with_reducible refine ld_h w.heap.size _ hr ?_ ?_); exact rfl) | ((with_reducible refine ld_c w.heap.size _ hr ?_ ?_); exact rfl) | ((with_reducible refine ld_s (w.heap.size + 3) _ hc2 ?_ ?_); exact rfl) | ((with_reducible refine ld_op (w.heap.size + 1) _ hi ?_ ?_); exact rfl) | ((with_reducible refine ld_rd (w.heap.size + 1) _ hi ?_ ?_); exact rfl) | ((with_reducible refine ld_rs1 (w.heap.size + 1) _ hi ?_ ?_); exact rfl) | ((with_reducible refine ld_csr (w.heap.size + 1) _ hi ?_ ?_); exact rfl) | ((with_reducible refine ld_x w.heap.size s1 _ h1 hr ?_ ?_); exact rfl) | ((with_reducible refine st_c w.heap.size _ c hr ?_ ?_ ?_); exact rfl; exact rfl; intro W hnew ho; replace hi := hi.only ho (by omega); replace hq := hq.only ho (by omega); replace hc2 := hc2.only ho (by omega); replace hr := hnew; replace hb := ho.bel _ _ (by omega) hb) | (go_at_call 46; refine (HWr.out _).mono ?_; rintro e W ⟨rfl, hbc⟩; replace hr := hr.bl hbc; replace hi := hi.bl hbc; replace hq := hq.bl hbc; replace hc2 := hc2.bl hbc; replace hb := below_bl rfl hb hbc) | (go_at_call 45; refine (HN.out _).mono ?_; rintro e W ⟨rfl, hbc⟩; replace hr := hr.bl hbc; replace hi := hi.bl hbc; replace hq := hq.bl hbc; replace hc2 := hc2.bl hbc; replace hb := below_bl rfl hb hbc) | ((with_reducible refine st_h (w.heap.size + 2) _ (nextH (writeH (withC h c) rd old)) hq ?_ ?_ ?_); exact rfl; exact rfl; intro W hnew ho; replace hr := hr.only ho (by omega); replace hi := hi.only ho (by omega); replace hc2 := hc2.only ho (by omega); replace hq := hnew; replace hb := ho.bel _ _ (by omega) hb))
    refine bodyPost_ret (results_cell_row Tryd.results26 _ _ (w.heap.size + 2) _ _ _ _ rfl hq Tryd.underlying31 rfl size_hart) rfl ?_
    exact ⟨rfl, hb⟩

set_option maxHeartbeats 2000000 in
theorem control_55rA (h : H) (ok : h.Ok) (rd s1 s2 : Nat) (im cs : Int) (hrd : rd < 32) (h1 : s1 < 32) (v l : Nat) (hl : l < 4294967296) (hR : readN h.c cs l = none) (w : World) :
    Calls Tryd.prog 26 #[.agg h.cells, .agg (I6.cells ⟨55, (rd : Nat), (s1 : Nat), (s2 : Nat), im, cs⟩), .int .u32 v, .int .u32 l] w fun e w' => e = .returned (.agg (trapH h 2 v).cells) ∧ Below w.heap.size w w' := by
  have b1 : (0 : Int) ≤ s1 := by omega
  have b2 : (s1 : Int) < 32 := by omega
  have HR := hide (fun w => cs_read_bl h.c ok.c cs l hl w)
  rw [hR] at HR
  simp only [readV] at HR
  clear hR
  have HT := hide (fun w => trap_any h ok 2 v (by decide) w)
  rw [show (((2 : Nat) : Int)) = 2 from rfl] at HT
  go_enter Tryd.func26, Tryd.ntmps26
  go_wp2_with (first | ((with_reducible refine bx_h w.heap.size h ?_ ?_ ?_); exact rfl; exact rfl; intro W hr hb hz) | ((with_reducible refine bx_i (w.heap.size + 1) ⟨55, (rd : Nat), (s1 : Nat), (s2 : Nat), im, cs⟩ ?_ ?_ ?_); exact hz.out; exact rfl; intro W hi hb' hz'; replace hr := hr.bl (hz.out ▸ hb'); replace hb := hb.trans (hb'.mono (by omega)); replace hz := hz') | ((with_reducible refine al_h (w.heap.size + 2) ?_ ?_); exact hz.out; intro W hq hb' hz'; replace hr := hr.bl (hz.out ▸ hb'); replace hi := hi.bl (hz.out ▸ hb'); replace hb := hb.trans (hb'.mono (by omega)); replace hz := hz'; have qa : W.cell? ⟨w.heap.size + 1, 0, none⟩ = some (.int .i64 55) := hi.cell 0; have qb : W.cell? ⟨w.heap.size + 1, 1, none⟩ = some (.int .i64 (rd : Nat)) := hi.cell 1; have qc : W.cell? ⟨w.heap.size + 1, 2, none⟩ = some (.int .i64 (s1 : Nat)) := hi.cell 2) | ((with_reducible refine al_c (w.heap.size + 3) ?_ ?_); exact hz.out; intro W hc2 hb' hz'; replace hr := hr.bl (hz.out ▸ hb'); replace hi := hi.bl (hz.out ▸ hb'); replace hq := hq.bl (hz.out ▸ hb'); replace hb := hb.trans (hb'.mono (by omega)); replace hz := hz'; have qa : W.cell? ⟨w.heap.size + 1, 0, none⟩ = some (.int .i64 55) := hi.cell 0; have qb : W.cell? ⟨w.heap.size + 1, 1, none⟩ = some (.int .i64 (rd : Nat)) := hi.cell 1; have qc : W.cell? ⟨w.heap.size + 1, 2, none⟩ = some (.int .i64 (s1 : Nat)) := hi.cell 2) | ((with_reducible refine st_s (w.heap.size + 3) _ h.c hc2 ?_ ?_ ?_); exact rfl; exact rfl; intro W hnew ho; replace hr := hr.only ho (by omega); replace hi := hi.only ho (by omega); replace hq := hq.only ho (by omega); replace hc2 := hnew; replace hb := ho.bel _ _ (by omega) hb; have qa : W.cell? ⟨w.heap.size + 1, 0, none⟩ = some (.int .i64 55) := hi.cell 0; have qb : W.cell? ⟨w.heap.size + 1, 1, none⟩ = some (.int .i64 (rd : Nat)) := hi.cell 1; have qc : W.cell? ⟨w.heap.size + 1, 2, none⟩ = some (.int .i64 (s1 : Nat)) := hi.cell 2) | (go_at_call 52; refine (HR.out _).mono ?_; rintro e W ⟨rfl, hbc⟩; replace hr := hr.bl hbc; replace hi := hi.bl hbc; replace hq := hq.bl hbc; replace hc2 := hc2.bl hbc; replace hb := below_bl rfl hb hbc; have qa : W.cell? ⟨w.heap.size + 1, 0, none⟩ = some (.int .i64 55) := hi.cell 0; have qb : W.cell? ⟨w.heap.size + 1, 1, none⟩ = some (.int .i64 (rd : Nat)) := hi.cell 1; have qc : W.cell? ⟨w.heap.size + 1, 2, none⟩ = some (.int .i64 (s1 : Nat)) := hi.cell 2) | ((with_reducible refine ld_h w.heap.size _ hr ?_ ?_); exact rfl) | ((with_reducible refine ld_c w.heap.size _ hr ?_ ?_); exact rfl) | ((with_reducible refine ld_s (w.heap.size + 3) _ hc2 ?_ ?_); exact rfl) | ((with_reducible refine ld_op (w.heap.size + 1) _ hi ?_ ?_); exact rfl) | ((with_reducible refine ld_rd (w.heap.size + 1) _ hi ?_ ?_); exact rfl) | ((with_reducible refine ld_rs1 (w.heap.size + 1) _ hi ?_ ?_); exact rfl) | ((with_reducible refine ld_csr (w.heap.size + 1) _ hi ?_ ?_); exact rfl) | ((with_reducible refine ld_x w.heap.size s1 _ h1 hr ?_ ?_); exact rfl) | (go_at_call 22; refine (HT.out _).mono ?_; rintro e W ⟨rfl, hbc⟩; replace hr := hr.bl hbc; replace hi := hi.bl hbc; replace hq := hq.bl hbc; replace hc2 := hc2.bl hbc; replace hb := below_bl rfl hb hbc) | ((with_reducible refine st_h (w.heap.size + 2) _ (trapH h 2 v) hq ?_ ?_ ?_); exact rfl; exact rfl; intro W hnew ho; replace hr := hr.only ho (by omega); replace hi := hi.only ho (by omega); replace hc2 := hc2.only ho (by omega); replace hq := hnew; replace hb := ho.bel _ _ (by omega) hb))
  refine bodyPost_ret (results_cell_row Tryd.results26 _ _ (w.heap.size + 2) _ _ _ _ rfl hq Tryd.underlying31 rfl size_hart) rfl ?_
  exact ⟨rfl, hb⟩

set_option maxHeartbeats 2000000 in
theorem control_55rB (h : H) (ok : h.Ok) (rd s1 s2 : Nat) (im cs : Int) (hrd : rd < 32) (h1 : s1 < 32) (v l : Nat) (hl : l < 4294967296) (h0 : s1 ≠ 0) (old : Nat) (hold : old < 4294967296) (hR : readN h.c cs l = some old) (c : S8) (k : Nat) (hW : writeN h.c cs (mixN 55 old s1) = (c, k + 1)) (w : World) :
    Calls Tryd.prog 26 #[.agg h.cells, .agg (I6.cells ⟨55, (rd : Nat), (s1 : Nat), (s2 : Nat), im, cs⟩), .int .u32 v, .int .u32 l] w fun e w' => e = .returned (.agg (trapH h 2 v).cells) ∧ Below w.heap.size w w' := by
  have b1 : (0 : Int) ≤ s1 := by omega
  have b2 : (s1 : Int) < 32 := by omega
  have t2 : ((s1 : Int) != 0) = true := by simp; omega
  clear h0
  have HR := hide (fun w => cs_read_bl h.c ok.c cs l hl w)
  rw [hR] at HR
  simp only [readV] at HR
  clear hR
  have HM : Hid (∀ z : Int, z = ((s1 : Nat) : Int) → ∀ w, Calls Tryd.prog 54 #[.int .i64 55, .int .u32 old, .int .u32 z] w fun e w' => e = .returned (.int .u32 ((mixN 55 old s1) : Nat)) ∧ w' = w) := hide (fun z hz w => by rw [hz]; exact mixed_55 old s1 hold (by omega : s1 < 4294967296) w)
  have HW := hide (fun w => cs_write_bl h.c ok.c cs (mixN 55 old s1) (mixN_lt 55 hold (by omega : s1 < 4294967296)) w)
  rw [hW] at HW
  simp only [errW] at HW
  clear hW
  generalize (mixN 55 old s1) = M at HM HW
  have HT := hide (fun w => trap_any h ok 2 v (by decide) w)
  rw [show (((2 : Nat) : Int)) = 2 from rfl] at HT
  go_enter Tryd.func26, Tryd.ntmps26
  go_wp2_with (first | ((with_reducible refine bx_h w.heap.size h ?_ ?_ ?_); exact rfl; exact rfl; intro W hr hb hz) | ((with_reducible refine bx_i (w.heap.size + 1) ⟨55, (rd : Nat), (s1 : Nat), (s2 : Nat), im, cs⟩ ?_ ?_ ?_); exact hz.out; exact rfl; intro W hi hb' hz'; replace hr := hr.bl (hz.out ▸ hb'); replace hb := hb.trans (hb'.mono (by omega)); replace hz := hz') | ((with_reducible refine al_h (w.heap.size + 2) ?_ ?_); exact hz.out; intro W hq hb' hz'; replace hr := hr.bl (hz.out ▸ hb'); replace hi := hi.bl (hz.out ▸ hb'); replace hb := hb.trans (hb'.mono (by omega)); replace hz := hz'; have qa : W.cell? ⟨w.heap.size + 1, 0, none⟩ = some (.int .i64 55) := hi.cell 0; have qb : W.cell? ⟨w.heap.size + 1, 1, none⟩ = some (.int .i64 (rd : Nat)) := hi.cell 1; have qc : W.cell? ⟨w.heap.size + 1, 2, none⟩ = some (.int .i64 (s1 : Nat)) := hi.cell 2) | ((with_reducible refine al_c (w.heap.size + 3) ?_ ?_); exact hz.out; intro W hc2 hb' hz'; replace hr := hr.bl (hz.out ▸ hb'); replace hi := hi.bl (hz.out ▸ hb'); replace hq := hq.bl (hz.out ▸ hb'); replace hb := hb.trans (hb'.mono (by omega)); replace hz := hz'; have qa : W.cell? ⟨w.heap.size + 1, 0, none⟩ = some (.int .i64 55) := hi.cell 0; have qb : W.cell? ⟨w.heap.size + 1, 1, none⟩ = some (.int .i64 (rd : Nat)) := hi.cell 1; have qc : W.cell? ⟨w.heap.size + 1, 2, none⟩ = some (.int .i64 (s1 : Nat)) := hi.cell 2) | ((with_reducible refine st_s (w.heap.size + 3) _ h.c hc2 ?_ ?_ ?_); exact rfl; exact rfl; intro W hnew ho; replace hr := hr.only ho (by omega); replace hi := hi.only ho (by omega); replace hq := hq.only ho (by omega); replace hc2 := hnew; replace hb := ho.bel _ _ (by omega) hb; have qa : W.cell? ⟨w.heap.size + 1, 0, none⟩ = some (.int .i64 55) := hi.cell 0; have qb : W.cell? ⟨w.heap.size + 1, 1, none⟩ = some (.int .i64 (rd : Nat)) := hi.cell 1; have qc : W.cell? ⟨w.heap.size + 1, 2, none⟩ = some (.int .i64 (s1 : Nat)) := hi.cell 2) | (go_at_call 52; refine (HR.out _).mono ?_; rintro e W ⟨rfl, hbc⟩; replace hr := hr.bl hbc; replace hi := hi.bl hbc; replace hq := hq.bl hbc; replace hc2 := hc2.bl hbc; replace hb := below_bl rfl hb hbc; have qa : W.cell? ⟨w.heap.size + 1, 0, none⟩ = some (.int .i64 55) := hi.cell 0; have qb : W.cell? ⟨w.heap.size + 1, 1, none⟩ = some (.int .i64 (rd : Nat)) := hi.cell 1; have qc : W.cell? ⟨w.heap.size + 1, 2, none⟩ = some (.int .i64 (s1 : Nat)) := hi.cell 2) | ((with_reducible refine ld_h w.heap.size _ hr ?_ ?_); exact rfl) | ((with_reducible refine ld_c w.heap.size _ hr ?_ ?_); exact rfl) | ((with_reducible refine ld_s (w.heap.size + 3) _ hc2 ?_ ?_); exact rfl) | ((with_reducible refine ld_op (w.heap.size + 1) _ hi ?_ ?_); exact rfl) | ((with_reducible refine ld_rd (w.heap.size + 1) _ hi ?_ ?_); exact rfl) | ((with_reducible refine ld_rs1 (w.heap.size + 1) _ hi ?_ ?_); exact rfl) | ((with_reducible refine ld_csr (w.heap.size + 1) _ hi ?_ ?_); exact rfl) | ((with_reducible refine ld_x w.heap.size s1 _ h1 hr ?_ ?_); exact rfl))
  refine wp_region_held_drew (S := (fun V => RowAt V w.heap.size h.cells 31 ∧ RowAt V (w.heap.size + 1) (I6.cells ⟨55, (rd : Nat), (s1 : Nat), (s2 : Nat), im, cs⟩) 61 ∧ (RowAt V (w.heap.size + 3) h.c.cells 29 ∨ RowAt V (w.heap.size + 3) c.cells 29) ∧ Below w.heap.size w V)) (by kernel_rfl) ?_ (fun hHeld => ?_)
  · exact ⟨hr.dr, hi.dr, Or.inl hc2.dr, hb.drew⟩
  replace hq := hq.dr
  replace hc2 := hc2.dr
  refine wpAnyH_take (i := 1) (oi := ?oi265) (v := .pointer (some ⟨w.heap.size + 1, 5, none⟩)) ?hi265 (by kernel_rfl) (by kernel_rfl) (by kernel_rfl) ?hQ265 ?hy265 (by assumption) ?rest265
  case hi265 => (simp only [List.getElem?_toArray, List.getElem?_cons_zero, List.getElem?_cons_succ]; rfl)
  case hQ265 => exact fun _ _ _ h => h
  case hy265 => exact Or.inl ⟨by rfl, by (intro w hSw; (try dsimp only at hSw); go_simp )⟩
  simp only [Act.put, List.setIfInBounds_toArray, List.set_cons_zero, List.set_cons_succ]
  refine wpAnyH_take (i := 2) (oi := ?oi266) (v := .int .i64 cs) ?hi266 (by kernel_rfl) (by kernel_rfl) (by kernel_rfl) ?hQ266 ?hy266 (by assumption) ?rest266
  case hi266 => (simp only [List.getElem?_toArray, List.getElem?_cons_zero, List.getElem?_cons_succ]; rfl)
  case hQ266 => exact fun _ _ _ h => h
  case hy266 => exact y_int (w.heap.size + 1) 5 _ (fun V hV => (hV.2.1.cell 5).trans rfl) rfl
  simp only [Act.put, List.setIfInBounds_toArray, List.set_cons_zero, List.set_cons_succ]
  refine wpAnyH_take (i := 3) (oi := ?oi267) (v := .pointer (some ⟨w.heap.size + 1, 0, none⟩)) ?hi267 (by kernel_rfl) (by kernel_rfl) (by kernel_rfl) ?hQ267 ?hy267 (by assumption) ?rest267
  case hi267 => (simp only [List.getElem?_toArray, List.getElem?_cons_zero, List.getElem?_cons_succ]; rfl)
  case hQ267 => exact fun _ _ _ h => h
  case hy267 => exact Or.inl ⟨by rfl, by (intro w hSw; (try dsimp only at hSw); go_simp )⟩
  simp only [Act.put, List.setIfInBounds_toArray, List.set_cons_zero, List.set_cons_succ]
  refine wpAnyH_take (i := 4) (oi := ?oi268) (v := .int .i64 55) ?hi268 (by kernel_rfl) (by kernel_rfl) (by kernel_rfl) ?hQ268 ?hy268 (by assumption) ?rest268
  case hi268 => (simp only [List.getElem?_toArray, List.getElem?_cons_zero, List.getElem?_cons_succ]; rfl)
  case hQ268 => exact fun _ _ _ h => h
  case hy268 => exact y_int (w.heap.size + 1) 0 _ (fun V hV => (hV.2.1.cell 0).trans rfl) rfl
  simp only [Act.put, List.setIfInBounds_toArray, List.set_cons_zero, List.set_cons_succ]
  refine wpAnyH_take (i := 5) (oi := ?oi269) (v := .int .u32 (old : Nat)) ?hi269 (by kernel_rfl) (by kernel_rfl) (by kernel_rfl) ?hQ269 ?hy269 (by assumption) ?rest269
  case hi269 => (simp only [List.getElem?_toArray, List.getElem?_cons_zero, List.getElem?_cons_succ]; rfl)
  case hQ269 => exact fun _ _ _ h => h
  case hy269 => exact Or.inl ⟨by rfl, by (intro w hSw; (try dsimp only at hSw); go_simp )⟩
  simp only [Act.put, List.setIfInBounds_toArray, List.set_cons_zero, List.set_cons_succ]
  refine wpAnyH_take (i := 6) (oi := ?oi270) (v := .int .u32 (s1 : Nat)) ?hi270 (by kernel_rfl) (by kernel_rfl) (by kernel_rfl) ?hQ270 ?hy270 (by assumption) ?rest270
  case hi270 => (simp only [List.getElem?_toArray, List.getElem?_cons_zero, List.getElem?_cons_succ]; rfl)
  case hQ270 => exact fun _ _ _ h => h
  case hy270 => exact Or.inl ⟨by rfl, by (intro w hSw; (try dsimp only at hSw); go_simp <;> omega)⟩
  simp only [Act.put, List.setIfInBounds_toArray, List.set_cons_zero, List.set_cons_succ]
  refine wpAnyH_ready (rs := [0, 7]) (by kernel_rfl) (by simp) ?_
  refine AllReadyH.cons (o := ?oi271) ?hi271 (fun K hK => ?b271) (AllReadyH.cons (o := ?oi272) ?hi272 (fun K hK => ?b272) AllReadyH.nil)
  case hi271 => (simp only [List.getElem?_toArray, List.getElem?_cons_zero]; rfl)
  case hi272 => (simp only [List.getElem?_toArray, List.getElem?_cons_zero, List.getElem?_cons_succ]; rfl)
  case b271 =>
    rw [if_pos (by rfl)]
    (with_reducible refine w_ld_s (w.heap.size + 3) h.c hc2 ?_ ?_)
    · exact rfl
    simp only [Act.put, List.setIfInBounds_toArray, List.set_cons_zero, List.set_cons_succ]
    refine hK.out _ _ ?_ (fun hHeld => ?_)
    · exact hHeld
    clear hK K
    refine wpAnyH_ready (rs := [7]) (by kernel_rfl) (by simp) ?_
    refine AllReadyH.cons (o := ?oi273) ?hi273 (fun K hK => ?_) AllReadyH.nil
    case hi273 => (simp only [List.getElem?_toArray, List.getElem?_cons_zero, List.getElem?_cons_succ]; rfl)
    go_simp
    refine (HM.out _ ?_ _).mono ?_
    · first | rfl | omega
    rintro e V ⟨rfl, rfl⟩
    go_simp
    refine hK.out _ _ ?_ (fun hHeld => ?_)
    · exact hHeld
    clear hK K
    refine wpAnyH_ready (rs := [8]) (by kernel_rfl) (by simp) ?_
    refine AllReadyH.cons (o := ?oi274) ?hi274 (fun K hK => ?_) AllReadyH.nil
    case hi274 => (simp only [List.getElem?_toArray, List.getElem?_cons_zero, List.getElem?_cons_succ]; rfl)
    go_simp
    refine (HW.out _).mono ?_
    rintro e V ⟨rfl, hbc⟩
    replace hr := hHeld.1.bl hbc
    replace hi := hHeld.2.1.bl hbc
    replace hb := below_bl rfl hHeld.2.2.2 hbc
    replace hq := hq.bl hbc
    replace hc2 := hc2.bl hbc
    clear hHeld
    go_simp
    refine hK.out _ _ ?_ (fun hHeld => ?_)
    · exact ⟨hr, hi, Or.inl hc2, hb⟩
    clear hK K
    refine wpAnyH_take (i := 9) (oi := ?oi275) (v := .tuple #[.agg c.cells, (.iface 89 (.int .i64 ((k : Int) + 1)))]) ?hi275 (by kernel_rfl) (by kernel_rfl) (by kernel_rfl) ?hQ275 ?hy275 (by assumption) ?rest275
    case hi275 => (simp only [List.getElem?_toArray, List.getElem?_cons_zero, List.getElem?_cons_succ]; rfl)
    case hQ275 => exact fun _ _ _ h => h
    case hy275 => exact Or.inl ⟨by rfl, by (intro w hSw; (try dsimp only at hSw); go_simp )⟩
    simp only [Act.put, List.setIfInBounds_toArray, List.set_cons_zero, List.set_cons_succ]
    refine wpAnyH_take (i := 10) (oi := ?oi276) (v := .agg c.cells) ?hi276 (by kernel_rfl) (by kernel_rfl) (by kernel_rfl) ?hQ276 ?hy276 (by assumption) ?rest276
    case hi276 => (simp only [List.getElem?_toArray, List.getElem?_cons_zero, List.getElem?_cons_succ]; rfl)
    case hQ276 => exact fun _ _ _ h => h
    case hy276 => exact Or.inl ⟨by rfl, by (intro w hSw; (try dsimp only at hSw); go_simp )⟩
    simp only [Act.put, List.setIfInBounds_toArray, List.set_cons_zero, List.set_cons_succ]
    refine wpAnyH_take (i := 11) (oi := ?oi277) (v := (.iface 89 (.int .i64 ((k : Int) + 1)))) ?hi277 (by kernel_rfl) (by kernel_rfl) (by kernel_rfl) ?hQ277 ?hy277 (by assumption) ?rest277
    case hi277 => (simp only [List.getElem?_toArray, List.getElem?_cons_zero, List.getElem?_cons_succ]; rfl)
    case hQ277 => exact fun _ _ _ h => h
    case hy277 => exact Or.inl ⟨by rfl, by (intro w hSw; (try dsimp only at hSw); go_simp )⟩
    simp only [Act.put, List.setIfInBounds_toArray, List.set_cons_zero, List.set_cons_succ]
    refine wpAnyH_ready (rs := [12]) (by kernel_rfl) (by simp) ?_
    refine AllReadyH.cons (o := ?oi278) ?hi278 (fun K hK => ?_) AllReadyH.nil
    case hi278 => (simp only [List.getElem?_toArray, List.getElem?_cons_zero, List.getElem?_cons_succ]; rfl)
    rw [if_pos (by rfl)]
    (with_reducible refine s_s (w.heap.size + 3) _ c hc2 ?_ ?_ ?_)
    · exact rfl
    · exact rfl
    intro W hnew ho
    replace hr := hr.only ho (by omega)
    replace hi := hi.only ho (by omega)
    replace hq := hq.only ho (by omega)
    replace hb := ho.bel _ _ (by omega) hb
    replace hc2 := hnew
    clear hHeld
    refine hK.out _ _ ?_ (fun hHeld => ?_)
    · exact ⟨hr, hi, Or.inr hc2, hb⟩
    clear hK K
    refine wpAnyH_take (i := 13) (oi := ?oi279) (v := (.iface 89 (.int .i64 ((k : Int) + 1)))) ?hi279 (by kernel_rfl) (by kernel_rfl) (by kernel_rfl) ?hQ279 ?hy279 (by assumption) ?rest279
    case hi279 => (simp only [List.getElem?_toArray, List.getElem?_cons_zero, List.getElem?_cons_succ]; rfl)
    case hQ279 => exact fun _ _ _ h => h
    case hy279 => exact Or.inl ⟨by rfl, by (intro w hSw; (try dsimp only at hSw); go_simp )⟩
    simp only [Act.put, List.setIfInBounds_toArray, List.set_cons_zero, List.set_cons_succ]
    refine wpAnyH_done (by kernel_rfl) ?_ _
    have qa : W.cell? ⟨w.heap.size + 1, 0, none⟩ = some (.int .i64 55) := hi.cell 0
    have qb : W.cell? ⟨w.heap.size + 1, 1, none⟩ = some (.int .i64 (rd : Nat)) := hi.cell 1
    have qc : W.cell? ⟨w.heap.size + 1, 2, none⟩ = some (.int .i64 (s1 : Nat)) := hi.cell 2
    go_wp2_with (first | ((with_reducible refine ld_h w.heap.size _ hr ?_ ?_); exact rfl) | ((with_reducible refine ld_c w.heap.size _ hr ?_ ?_); exact rfl) | ((with_reducible refine ld_s (w.heap.size + 3) _ hc2 ?_ ?_); exact rfl) | ((with_reducible refine ld_op (w.heap.size + 1) _ hi ?_ ?_); exact rfl) | ((with_reducible refine ld_rd (w.heap.size + 1) _ hi ?_ ?_); exact rfl) | ((with_reducible refine ld_rs1 (w.heap.size + 1) _ hi ?_ ?_); exact rfl) | ((with_reducible refine ld_csr (w.heap.size + 1) _ hi ?_ ?_); exact rfl) | ((with_reducible refine ld_x w.heap.size s1 _ h1 hr ?_ ?_); exact rfl) | (go_at_call 22; refine (HT.out _).mono ?_; rintro e W ⟨rfl, hbc⟩; replace hr := hr.bl hbc; replace hi := hi.bl hbc; replace hq := hq.bl hbc; replace hc2 := hc2.bl hbc; replace hb := below_bl rfl hb hbc) | ((with_reducible refine st_h (w.heap.size + 2) _ (trapH h 2 v) hq ?_ ?_ ?_); exact rfl; exact rfl; intro W hnew ho; replace hr := hr.only ho (by omega); replace hi := hi.only ho (by omega); replace hc2 := hc2.only ho (by omega); replace hq := hnew; replace hb := ho.bel _ _ (by omega) hb))
    refine bodyPost_ret (results_cell_row Tryd.results26 _ _ (w.heap.size + 2) _ _ _ _ rfl hq Tryd.underlying31 rfl size_hart) rfl ?_
    exact ⟨rfl, hb⟩
  case b272 =>
    go_simp
    refine (HM.out _ ?_ _).mono ?_
    · first | rfl | omega
    rintro e V ⟨rfl, rfl⟩
    go_simp
    refine hK.out _ _ ?_ (fun hHeld => ?_)
    · exact hHeld
    clear hK K
    refine wpAnyH_ready (rs := [0]) (by kernel_rfl) (by simp) ?_
    refine AllReadyH.cons (o := ?oi280) ?hi280 (fun K hK => ?_) AllReadyH.nil
    case hi280 => (simp only [List.getElem?_toArray, List.getElem?_cons_zero]; rfl)
    rw [if_pos (by rfl)]
    (with_reducible refine w_ld_s (w.heap.size + 3) h.c hc2 ?_ ?_)
    · exact rfl
    simp only [Act.put, List.setIfInBounds_toArray, List.set_cons_zero, List.set_cons_succ]
    refine hK.out _ _ ?_ (fun hHeld => ?_)
    · exact hHeld
    clear hK K
    refine wpAnyH_ready (rs := [8]) (by kernel_rfl) (by simp) ?_
    refine AllReadyH.cons (o := ?oi281) ?hi281 (fun K hK => ?_) AllReadyH.nil
    case hi281 => (simp only [List.getElem?_toArray, List.getElem?_cons_zero, List.getElem?_cons_succ]; rfl)
    go_simp
    refine (HW.out _).mono ?_
    rintro e V ⟨rfl, hbc⟩
    replace hr := hHeld.1.bl hbc
    replace hi := hHeld.2.1.bl hbc
    replace hb := below_bl rfl hHeld.2.2.2 hbc
    replace hq := hq.bl hbc
    replace hc2 := hc2.bl hbc
    clear hHeld
    go_simp
    refine hK.out _ _ ?_ (fun hHeld => ?_)
    · exact ⟨hr, hi, Or.inl hc2, hb⟩
    clear hK K
    refine wpAnyH_take (i := 9) (oi := ?oi282) (v := .tuple #[.agg c.cells, (.iface 89 (.int .i64 ((k : Int) + 1)))]) ?hi282 (by kernel_rfl) (by kernel_rfl) (by kernel_rfl) ?hQ282 ?hy282 (by assumption) ?rest282
    case hi282 => (simp only [List.getElem?_toArray, List.getElem?_cons_zero, List.getElem?_cons_succ]; rfl)
    case hQ282 => exact fun _ _ _ h => h
    case hy282 => exact Or.inl ⟨by rfl, by (intro w hSw; (try dsimp only at hSw); go_simp )⟩
    simp only [Act.put, List.setIfInBounds_toArray, List.set_cons_zero, List.set_cons_succ]
    refine wpAnyH_take (i := 10) (oi := ?oi283) (v := .agg c.cells) ?hi283 (by kernel_rfl) (by kernel_rfl) (by kernel_rfl) ?hQ283 ?hy283 (by assumption) ?rest283
    case hi283 => (simp only [List.getElem?_toArray, List.getElem?_cons_zero, List.getElem?_cons_succ]; rfl)
    case hQ283 => exact fun _ _ _ h => h
    case hy283 => exact Or.inl ⟨by rfl, by (intro w hSw; (try dsimp only at hSw); go_simp )⟩
    simp only [Act.put, List.setIfInBounds_toArray, List.set_cons_zero, List.set_cons_succ]
    refine wpAnyH_take (i := 11) (oi := ?oi284) (v := (.iface 89 (.int .i64 ((k : Int) + 1)))) ?hi284 (by kernel_rfl) (by kernel_rfl) (by kernel_rfl) ?hQ284 ?hy284 (by assumption) ?rest284
    case hi284 => (simp only [List.getElem?_toArray, List.getElem?_cons_zero, List.getElem?_cons_succ]; rfl)
    case hQ284 => exact fun _ _ _ h => h
    case hy284 => exact Or.inl ⟨by rfl, by (intro w hSw; (try dsimp only at hSw); go_simp )⟩
    simp only [Act.put, List.setIfInBounds_toArray, List.set_cons_zero, List.set_cons_succ]
    refine wpAnyH_ready (rs := [12]) (by kernel_rfl) (by simp) ?_
    refine AllReadyH.cons (o := ?oi285) ?hi285 (fun K hK => ?_) AllReadyH.nil
    case hi285 => (simp only [List.getElem?_toArray, List.getElem?_cons_zero, List.getElem?_cons_succ]; rfl)
    rw [if_pos (by rfl)]
    (with_reducible refine s_s (w.heap.size + 3) _ c hc2 ?_ ?_ ?_)
    · exact rfl
    · exact rfl
    intro W hnew ho
    replace hr := hr.only ho (by omega)
    replace hi := hi.only ho (by omega)
    replace hq := hq.only ho (by omega)
    replace hb := ho.bel _ _ (by omega) hb
    replace hc2 := hnew
    clear hHeld
    refine hK.out _ _ ?_ (fun hHeld => ?_)
    · exact ⟨hr, hi, Or.inr hc2, hb⟩
    clear hK K
    refine wpAnyH_take (i := 13) (oi := ?oi286) (v := (.iface 89 (.int .i64 ((k : Int) + 1)))) ?hi286 (by kernel_rfl) (by kernel_rfl) (by kernel_rfl) ?hQ286 ?hy286 (by assumption) ?rest286
    case hi286 => (simp only [List.getElem?_toArray, List.getElem?_cons_zero, List.getElem?_cons_succ]; rfl)
    case hQ286 => exact fun _ _ _ h => h
    case hy286 => exact Or.inl ⟨by rfl, by (intro w hSw; (try dsimp only at hSw); go_simp )⟩
    simp only [Act.put, List.setIfInBounds_toArray, List.set_cons_zero, List.set_cons_succ]
    refine wpAnyH_done (by kernel_rfl) ?_ _
    have qa : W.cell? ⟨w.heap.size + 1, 0, none⟩ = some (.int .i64 55) := hi.cell 0
    have qb : W.cell? ⟨w.heap.size + 1, 1, none⟩ = some (.int .i64 (rd : Nat)) := hi.cell 1
    have qc : W.cell? ⟨w.heap.size + 1, 2, none⟩ = some (.int .i64 (s1 : Nat)) := hi.cell 2
    go_wp2_with (first | ((with_reducible refine ld_h w.heap.size _ hr ?_ ?_); exact rfl) | ((with_reducible refine ld_c w.heap.size _ hr ?_ ?_); exact rfl) | ((with_reducible refine ld_s (w.heap.size + 3) _ hc2 ?_ ?_); exact rfl) | ((with_reducible refine ld_op (w.heap.size + 1) _ hi ?_ ?_); exact rfl) | ((with_reducible refine ld_rd (w.heap.size + 1) _ hi ?_ ?_); exact rfl) | ((with_reducible refine ld_rs1 (w.heap.size + 1) _ hi ?_ ?_); exact rfl) | ((with_reducible refine ld_csr (w.heap.size + 1) _ hi ?_ ?_); exact rfl) | ((with_reducible refine ld_x w.heap.size s1 _ h1 hr ?_ ?_); exact rfl) | (go_at_call 22; refine (HT.out _).mono ?_; rintro e W ⟨rfl, hbc⟩; replace hr := hr.bl hbc; replace hi := hi.bl hbc; replace hq := hq.bl hbc; replace hc2 := hc2.bl hbc; replace hb := below_bl rfl hb hbc) | ((with_reducible refine st_h (w.heap.size + 2) _ (trapH h 2 v) hq ?_ ?_ ?_); exact rfl; exact rfl; intro W hnew ho; replace hr := hr.only ho (by omega); replace hi := hi.only ho (by omega); replace hc2 := hc2.only ho (by omega); replace hq := hnew; replace hb := ho.bel _ _ (by omega) hb))
    refine bodyPost_ret (results_cell_row Tryd.results26 _ _ (w.heap.size + 2) _ _ _ _ rfl hq Tryd.underlying31 rfl size_hart) rfl ?_
    exact ⟨rfl, hb⟩

set_option maxHeartbeats 2000000 in
theorem control_55rC (h : H) (ok : h.Ok) (rd s1 s2 : Nat) (im cs : Int) (hrd : rd < 32) (h1 : s1 < 32) (v l : Nat) (hl : l < 4294967296) (h0 : s1 ≠ 0) (old : Nat) (hold : old < 4294967296) (hR : readN h.c cs l = some old) (c : S8) (hc : c.Ok) (hW : writeN h.c cs (mixN 55 old s1) = (c, 0)) (w : World) :
    Calls Tryd.prog 26 #[.agg h.cells, .agg (I6.cells ⟨55, (rd : Nat), (s1 : Nat), (s2 : Nat), im, cs⟩), .int .u32 v, .int .u32 l] w fun e w' => e = .returned (.agg (nextH (writeH (withC h c) rd old)).cells) ∧ Below w.heap.size w w' := by
  have b1 : (0 : Int) ≤ s1 := by omega
  have b2 : (s1 : Int) < 32 := by omega
  have t2 : ((s1 : Int) != 0) = true := by simp; omega
  clear h0
  have HR := hide (fun w => cs_read_bl h.c ok.c cs l hl w)
  rw [hR] at HR
  simp only [readV] at HR
  clear hR
  have HM : Hid (∀ z : Int, z = ((s1 : Nat) : Int) → ∀ w, Calls Tryd.prog 54 #[.int .i64 55, .int .u32 old, .int .u32 z] w fun e w' => e = .returned (.int .u32 ((mixN 55 old s1) : Nat)) ∧ w' = w) := hide (fun z hz w => by rw [hz]; exact mixed_55 old s1 hold (by omega : s1 < 4294967296) w)
  have HW := hide (fun w => cs_write_bl h.c ok.c cs (mixN 55 old s1) (mixN_lt 55 hold (by omega : s1 < 4294967296)) w)
  rw [hW] at HW
  simp only [errW] at HW
  clear hW
  generalize (mixN 55 old s1) = M at HM HW
  have ok' : H.Ok (withC h c) := ⟨ok.pc, ok.x, hc⟩
  have HWr := hide (fun w => write_any (withC h c) rd hrd old w)
  have HN := hide (fun w => next_any _ (writeH_ok ok' rd hold) w)
  go_enter Tryd.func26, Tryd.ntmps26
  go_wp2_with (first | ((with_reducible refine bx_h w.heap.size h ?_ ?_ ?_); exact rfl; exact rfl; intro W hr hb hz) | ((with_reducible refine bx_i (w.heap.size + 1) ⟨55, (rd : Nat), (s1 : Nat), (s2 : Nat), im, cs⟩ ?_ ?_ ?_); exact hz.out; exact rfl; intro W hi hb' hz'; replace hr := hr.bl (hz.out ▸ hb'); replace hb := hb.trans (hb'.mono (by omega)); replace hz := hz') | ((with_reducible refine al_h (w.heap.size + 2) ?_ ?_); exact hz.out; intro W hq hb' hz'; replace hr := hr.bl (hz.out ▸ hb'); replace hi := hi.bl (hz.out ▸ hb'); replace hb := hb.trans (hb'.mono (by omega)); replace hz := hz'; have qa : W.cell? ⟨w.heap.size + 1, 0, none⟩ = some (.int .i64 55) := hi.cell 0; have qb : W.cell? ⟨w.heap.size + 1, 1, none⟩ = some (.int .i64 (rd : Nat)) := hi.cell 1; have qc : W.cell? ⟨w.heap.size + 1, 2, none⟩ = some (.int .i64 (s1 : Nat)) := hi.cell 2) | ((with_reducible refine al_c (w.heap.size + 3) ?_ ?_); exact hz.out; intro W hc2 hb' hz'; replace hr := hr.bl (hz.out ▸ hb'); replace hi := hi.bl (hz.out ▸ hb'); replace hq := hq.bl (hz.out ▸ hb'); replace hb := hb.trans (hb'.mono (by omega)); replace hz := hz'; have qa : W.cell? ⟨w.heap.size + 1, 0, none⟩ = some (.int .i64 55) := hi.cell 0; have qb : W.cell? ⟨w.heap.size + 1, 1, none⟩ = some (.int .i64 (rd : Nat)) := hi.cell 1; have qc : W.cell? ⟨w.heap.size + 1, 2, none⟩ = some (.int .i64 (s1 : Nat)) := hi.cell 2) | ((with_reducible refine st_s (w.heap.size + 3) _ h.c hc2 ?_ ?_ ?_); exact rfl; exact rfl; intro W hnew ho; replace hr := hr.only ho (by omega); replace hi := hi.only ho (by omega); replace hq := hq.only ho (by omega); replace hc2 := hnew; replace hb := ho.bel _ _ (by omega) hb; have qa : W.cell? ⟨w.heap.size + 1, 0, none⟩ = some (.int .i64 55) := hi.cell 0; have qb : W.cell? ⟨w.heap.size + 1, 1, none⟩ = some (.int .i64 (rd : Nat)) := hi.cell 1; have qc : W.cell? ⟨w.heap.size + 1, 2, none⟩ = some (.int .i64 (s1 : Nat)) := hi.cell 2) | (go_at_call 52; refine (HR.out _).mono ?_; rintro e W ⟨rfl, hbc⟩; replace hr := hr.bl hbc; replace hi := hi.bl hbc; replace hq := hq.bl hbc; replace hc2 := hc2.bl hbc; replace hb := below_bl rfl hb hbc; have qa : W.cell? ⟨w.heap.size + 1, 0, none⟩ = some (.int .i64 55) := hi.cell 0; have qb : W.cell? ⟨w.heap.size + 1, 1, none⟩ = some (.int .i64 (rd : Nat)) := hi.cell 1; have qc : W.cell? ⟨w.heap.size + 1, 2, none⟩ = some (.int .i64 (s1 : Nat)) := hi.cell 2) | ((with_reducible refine ld_h w.heap.size _ hr ?_ ?_); exact rfl) | ((with_reducible refine ld_c w.heap.size _ hr ?_ ?_); exact rfl) | ((with_reducible refine ld_s (w.heap.size + 3) _ hc2 ?_ ?_); exact rfl) | ((with_reducible refine ld_op (w.heap.size + 1) _ hi ?_ ?_); exact rfl) | ((with_reducible refine ld_rd (w.heap.size + 1) _ hi ?_ ?_); exact rfl) | ((with_reducible refine ld_rs1 (w.heap.size + 1) _ hi ?_ ?_); exact rfl) | ((with_reducible refine ld_csr (w.heap.size + 1) _ hi ?_ ?_); exact rfl) | ((with_reducible refine ld_x w.heap.size s1 _ h1 hr ?_ ?_); exact rfl))
  refine wp_region_held_drew (S := (fun V => RowAt V w.heap.size h.cells 31 ∧ RowAt V (w.heap.size + 1) (I6.cells ⟨55, (rd : Nat), (s1 : Nat), (s2 : Nat), im, cs⟩) 61 ∧ (RowAt V (w.heap.size + 3) h.c.cells 29 ∨ RowAt V (w.heap.size + 3) c.cells 29) ∧ Below w.heap.size w V)) (by kernel_rfl) ?_ (fun hHeld => ?_)
  · exact ⟨hr.dr, hi.dr, Or.inl hc2.dr, hb.drew⟩
  replace hq := hq.dr
  replace hc2 := hc2.dr
  refine wpAnyH_take (i := 1) (oi := ?oi287) (v := .pointer (some ⟨w.heap.size + 1, 5, none⟩)) ?hi287 (by kernel_rfl) (by kernel_rfl) (by kernel_rfl) ?hQ287 ?hy287 (by assumption) ?rest287
  case hi287 => (simp only [List.getElem?_toArray, List.getElem?_cons_zero, List.getElem?_cons_succ]; rfl)
  case hQ287 => exact fun _ _ _ h => h
  case hy287 => exact Or.inl ⟨by rfl, by (intro w hSw; (try dsimp only at hSw); go_simp )⟩
  simp only [Act.put, List.setIfInBounds_toArray, List.set_cons_zero, List.set_cons_succ]
  refine wpAnyH_take (i := 2) (oi := ?oi288) (v := .int .i64 cs) ?hi288 (by kernel_rfl) (by kernel_rfl) (by kernel_rfl) ?hQ288 ?hy288 (by assumption) ?rest288
  case hi288 => (simp only [List.getElem?_toArray, List.getElem?_cons_zero, List.getElem?_cons_succ]; rfl)
  case hQ288 => exact fun _ _ _ h => h
  case hy288 => exact y_int (w.heap.size + 1) 5 _ (fun V hV => (hV.2.1.cell 5).trans rfl) rfl
  simp only [Act.put, List.setIfInBounds_toArray, List.set_cons_zero, List.set_cons_succ]
  refine wpAnyH_take (i := 3) (oi := ?oi289) (v := .pointer (some ⟨w.heap.size + 1, 0, none⟩)) ?hi289 (by kernel_rfl) (by kernel_rfl) (by kernel_rfl) ?hQ289 ?hy289 (by assumption) ?rest289
  case hi289 => (simp only [List.getElem?_toArray, List.getElem?_cons_zero, List.getElem?_cons_succ]; rfl)
  case hQ289 => exact fun _ _ _ h => h
  case hy289 => exact Or.inl ⟨by rfl, by (intro w hSw; (try dsimp only at hSw); go_simp )⟩
  simp only [Act.put, List.setIfInBounds_toArray, List.set_cons_zero, List.set_cons_succ]
  refine wpAnyH_take (i := 4) (oi := ?oi290) (v := .int .i64 55) ?hi290 (by kernel_rfl) (by kernel_rfl) (by kernel_rfl) ?hQ290 ?hy290 (by assumption) ?rest290
  case hi290 => (simp only [List.getElem?_toArray, List.getElem?_cons_zero, List.getElem?_cons_succ]; rfl)
  case hQ290 => exact fun _ _ _ h => h
  case hy290 => exact y_int (w.heap.size + 1) 0 _ (fun V hV => (hV.2.1.cell 0).trans rfl) rfl
  simp only [Act.put, List.setIfInBounds_toArray, List.set_cons_zero, List.set_cons_succ]
  refine wpAnyH_take (i := 5) (oi := ?oi291) (v := .int .u32 (old : Nat)) ?hi291 (by kernel_rfl) (by kernel_rfl) (by kernel_rfl) ?hQ291 ?hy291 (by assumption) ?rest291
  case hi291 => (simp only [List.getElem?_toArray, List.getElem?_cons_zero, List.getElem?_cons_succ]; rfl)
  case hQ291 => exact fun _ _ _ h => h
  case hy291 => exact Or.inl ⟨by rfl, by (intro w hSw; (try dsimp only at hSw); go_simp )⟩
  simp only [Act.put, List.setIfInBounds_toArray, List.set_cons_zero, List.set_cons_succ]
  refine wpAnyH_take (i := 6) (oi := ?oi292) (v := .int .u32 (s1 : Nat)) ?hi292 (by kernel_rfl) (by kernel_rfl) (by kernel_rfl) ?hQ292 ?hy292 (by assumption) ?rest292
  case hi292 => (simp only [List.getElem?_toArray, List.getElem?_cons_zero, List.getElem?_cons_succ]; rfl)
  case hQ292 => exact fun _ _ _ h => h
  case hy292 => exact Or.inl ⟨by rfl, by (intro w hSw; (try dsimp only at hSw); go_simp <;> omega)⟩
  simp only [Act.put, List.setIfInBounds_toArray, List.set_cons_zero, List.set_cons_succ]
  refine wpAnyH_ready (rs := [0, 7]) (by kernel_rfl) (by simp) ?_
  refine AllReadyH.cons (o := ?oi293) ?hi293 (fun K hK => ?b293) (AllReadyH.cons (o := ?oi294) ?hi294 (fun K hK => ?b294) AllReadyH.nil)
  case hi293 => (simp only [List.getElem?_toArray, List.getElem?_cons_zero]; rfl)
  case hi294 => (simp only [List.getElem?_toArray, List.getElem?_cons_zero, List.getElem?_cons_succ]; rfl)
  case b293 =>
    rw [if_pos (by rfl)]
    (with_reducible refine w_ld_s (w.heap.size + 3) h.c hc2 ?_ ?_)
    · exact rfl
    simp only [Act.put, List.setIfInBounds_toArray, List.set_cons_zero, List.set_cons_succ]
    refine hK.out _ _ ?_ (fun hHeld => ?_)
    · exact hHeld
    clear hK K
    refine wpAnyH_ready (rs := [7]) (by kernel_rfl) (by simp) ?_
    refine AllReadyH.cons (o := ?oi295) ?hi295 (fun K hK => ?_) AllReadyH.nil
    case hi295 => (simp only [List.getElem?_toArray, List.getElem?_cons_zero, List.getElem?_cons_succ]; rfl)
    go_simp
    refine (HM.out _ ?_ _).mono ?_
    · first | rfl | omega
    rintro e V ⟨rfl, rfl⟩
    go_simp
    refine hK.out _ _ ?_ (fun hHeld => ?_)
    · exact hHeld
    clear hK K
    refine wpAnyH_ready (rs := [8]) (by kernel_rfl) (by simp) ?_
    refine AllReadyH.cons (o := ?oi296) ?hi296 (fun K hK => ?_) AllReadyH.nil
    case hi296 => (simp only [List.getElem?_toArray, List.getElem?_cons_zero, List.getElem?_cons_succ]; rfl)
    go_simp
    refine (HW.out _).mono ?_
    rintro e V ⟨rfl, hbc⟩
    replace hr := hHeld.1.bl hbc
    replace hi := hHeld.2.1.bl hbc
    replace hb := below_bl rfl hHeld.2.2.2 hbc
    replace hq := hq.bl hbc
    replace hc2 := hc2.bl hbc
    clear hHeld
    go_simp
    refine hK.out _ _ ?_ (fun hHeld => ?_)
    · exact ⟨hr, hi, Or.inl hc2, hb⟩
    clear hK K
    refine wpAnyH_take (i := 9) (oi := ?oi297) (v := .tuple #[.agg c.cells, .nilIface]) ?hi297 (by kernel_rfl) (by kernel_rfl) (by kernel_rfl) ?hQ297 ?hy297 (by assumption) ?rest297
    case hi297 => (simp only [List.getElem?_toArray, List.getElem?_cons_zero, List.getElem?_cons_succ]; rfl)
    case hQ297 => exact fun _ _ _ h => h
    case hy297 => exact Or.inl ⟨by rfl, by (intro w hSw; (try dsimp only at hSw); go_simp )⟩
    simp only [Act.put, List.setIfInBounds_toArray, List.set_cons_zero, List.set_cons_succ]
    refine wpAnyH_take (i := 10) (oi := ?oi298) (v := .agg c.cells) ?hi298 (by kernel_rfl) (by kernel_rfl) (by kernel_rfl) ?hQ298 ?hy298 (by assumption) ?rest298
    case hi298 => (simp only [List.getElem?_toArray, List.getElem?_cons_zero, List.getElem?_cons_succ]; rfl)
    case hQ298 => exact fun _ _ _ h => h
    case hy298 => exact Or.inl ⟨by rfl, by (intro w hSw; (try dsimp only at hSw); go_simp )⟩
    simp only [Act.put, List.setIfInBounds_toArray, List.set_cons_zero, List.set_cons_succ]
    refine wpAnyH_take (i := 11) (oi := ?oi299) (v := .nilIface) ?hi299 (by kernel_rfl) (by kernel_rfl) (by kernel_rfl) ?hQ299 ?hy299 (by assumption) ?rest299
    case hi299 => (simp only [List.getElem?_toArray, List.getElem?_cons_zero, List.getElem?_cons_succ]; rfl)
    case hQ299 => exact fun _ _ _ h => h
    case hy299 => exact Or.inl ⟨by rfl, by (intro w hSw; (try dsimp only at hSw); go_simp )⟩
    simp only [Act.put, List.setIfInBounds_toArray, List.set_cons_zero, List.set_cons_succ]
    refine wpAnyH_ready (rs := [12]) (by kernel_rfl) (by simp) ?_
    refine AllReadyH.cons (o := ?oi300) ?hi300 (fun K hK => ?_) AllReadyH.nil
    case hi300 => (simp only [List.getElem?_toArray, List.getElem?_cons_zero, List.getElem?_cons_succ]; rfl)
    rw [if_pos (by rfl)]
    (with_reducible refine s_s (w.heap.size + 3) _ c hc2 ?_ ?_ ?_)
    · exact rfl
    · exact rfl
    intro W hnew ho
    replace hr := hr.only ho (by omega)
    replace hi := hi.only ho (by omega)
    replace hq := hq.only ho (by omega)
    replace hb := ho.bel _ _ (by omega) hb
    replace hc2 := hnew
    clear hHeld
    refine hK.out _ _ ?_ (fun hHeld => ?_)
    · exact ⟨hr, hi, Or.inr hc2, hb⟩
    clear hK K
    refine wpAnyH_take (i := 13) (oi := ?oi301) (v := .nilIface) ?hi301 (by kernel_rfl) (by kernel_rfl) (by kernel_rfl) ?hQ301 ?hy301 (by assumption) ?rest301
    case hi301 => (simp only [List.getElem?_toArray, List.getElem?_cons_zero, List.getElem?_cons_succ]; rfl)
    case hQ301 => exact fun _ _ _ h => h
    case hy301 => exact Or.inl ⟨by rfl, by (intro w hSw; (try dsimp only at hSw); go_simp )⟩
    simp only [Act.put, List.setIfInBounds_toArray, List.set_cons_zero, List.set_cons_succ]
    refine wpAnyH_done (by kernel_rfl) ?_ _
    have qa : W.cell? ⟨w.heap.size + 1, 0, none⟩ = some (.int .i64 55) := hi.cell 0
    have qb : W.cell? ⟨w.heap.size + 1, 1, none⟩ = some (.int .i64 (rd : Nat)) := hi.cell 1
    have qc : W.cell? ⟨w.heap.size + 1, 2, none⟩ = some (.int .i64 (s1 : Nat)) := hi.cell 2
    go_wp2_with (first | ((with_reducible refine ld_h w.heap.size _ hr ?_ ?_); exact rfl) | ((with_reducible refine ld_c w.heap.size _ hr ?_ ?_); exact rfl) | ((with_reducible refine ld_s (w.heap.size + 3) _ hc2 ?_ ?_); exact rfl) | ((with_reducible refine ld_op (w.heap.size + 1) _ hi ?_ ?_); exact rfl) | ((with_reducible refine ld_rd (w.heap.size + 1) _ hi ?_ ?_); exact rfl) | ((with_reducible refine ld_rs1 (w.heap.size + 1) _ hi ?_ ?_); exact rfl) | ((with_reducible refine ld_csr (w.heap.size + 1) _ hi ?_ ?_); exact rfl) | ((with_reducible refine ld_x w.heap.size s1 _ h1 hr ?_ ?_); exact rfl) | ((with_reducible refine st_c w.heap.size _ c hr ?_ ?_ ?_); exact rfl; exact rfl; intro W hnew ho; replace hi := hi.only ho (by omega); replace hq := hq.only ho (by omega); replace hc2 := hc2.only ho (by omega); replace hr := hnew; replace hb := ho.bel _ _ (by omega) hb) | (go_at_call 46; refine (HWr.out _).mono ?_; rintro e W ⟨rfl, hbc⟩; replace hr := hr.bl hbc; replace hi := hi.bl hbc; replace hq := hq.bl hbc; replace hc2 := hc2.bl hbc; replace hb := below_bl rfl hb hbc) | (go_at_call 45; refine (HN.out _).mono ?_; rintro e W ⟨rfl, hbc⟩; replace hr := hr.bl hbc; replace hi := hi.bl hbc; replace hq := hq.bl hbc; replace hc2 := hc2.bl hbc; replace hb := below_bl rfl hb hbc) | ((with_reducible refine st_h (w.heap.size + 2) _ (nextH (writeH (withC h c) rd old)) hq ?_ ?_ ?_); exact rfl; exact rfl; intro W hnew ho; replace hr := hr.only ho (by omega); replace hi := hi.only ho (by omega); replace hc2 := hc2.only ho (by omega); replace hq := hnew; replace hb := ho.bel _ _ (by omega) hb))
    refine bodyPost_ret (results_cell_row Tryd.results26 _ _ (w.heap.size + 2) _ _ _ _ rfl hq Tryd.underlying31 rfl size_hart) rfl ?_
    exact ⟨rfl, hb⟩
  case b294 =>
    go_simp
    refine (HM.out _ ?_ _).mono ?_
    · first | rfl | omega
    rintro e V ⟨rfl, rfl⟩
    go_simp
    refine hK.out _ _ ?_ (fun hHeld => ?_)
    · exact hHeld
    clear hK K
    refine wpAnyH_ready (rs := [0]) (by kernel_rfl) (by simp) ?_
    refine AllReadyH.cons (o := ?oi302) ?hi302 (fun K hK => ?_) AllReadyH.nil
    case hi302 => (simp only [List.getElem?_toArray, List.getElem?_cons_zero]; rfl)
    rw [if_pos (by rfl)]
    (with_reducible refine w_ld_s (w.heap.size + 3) h.c hc2 ?_ ?_)
    · exact rfl
    simp only [Act.put, List.setIfInBounds_toArray, List.set_cons_zero, List.set_cons_succ]
    refine hK.out _ _ ?_ (fun hHeld => ?_)
    · exact hHeld
    clear hK K
    refine wpAnyH_ready (rs := [8]) (by kernel_rfl) (by simp) ?_
    refine AllReadyH.cons (o := ?oi303) ?hi303 (fun K hK => ?_) AllReadyH.nil
    case hi303 => (simp only [List.getElem?_toArray, List.getElem?_cons_zero, List.getElem?_cons_succ]; rfl)
    go_simp
    refine (HW.out _).mono ?_
    rintro e V ⟨rfl, hbc⟩
    replace hr := hHeld.1.bl hbc
    replace hi := hHeld.2.1.bl hbc
    replace hb := below_bl rfl hHeld.2.2.2 hbc
    replace hq := hq.bl hbc
    replace hc2 := hc2.bl hbc
    clear hHeld
    go_simp
    refine hK.out _ _ ?_ (fun hHeld => ?_)
    · exact ⟨hr, hi, Or.inl hc2, hb⟩
    clear hK K
    refine wpAnyH_take (i := 9) (oi := ?oi304) (v := .tuple #[.agg c.cells, .nilIface]) ?hi304 (by kernel_rfl) (by kernel_rfl) (by kernel_rfl) ?hQ304 ?hy304 (by assumption) ?rest304
    case hi304 => (simp only [List.getElem?_toArray, List.getElem?_cons_zero, List.getElem?_cons_succ]; rfl)
    case hQ304 => exact fun _ _ _ h => h
    case hy304 => exact Or.inl ⟨by rfl, by (intro w hSw; (try dsimp only at hSw); go_simp )⟩
    simp only [Act.put, List.setIfInBounds_toArray, List.set_cons_zero, List.set_cons_succ]
    refine wpAnyH_take (i := 10) (oi := ?oi305) (v := .agg c.cells) ?hi305 (by kernel_rfl) (by kernel_rfl) (by kernel_rfl) ?hQ305 ?hy305 (by assumption) ?rest305
    case hi305 => (simp only [List.getElem?_toArray, List.getElem?_cons_zero, List.getElem?_cons_succ]; rfl)
    case hQ305 => exact fun _ _ _ h => h
    case hy305 => exact Or.inl ⟨by rfl, by (intro w hSw; (try dsimp only at hSw); go_simp )⟩
    simp only [Act.put, List.setIfInBounds_toArray, List.set_cons_zero, List.set_cons_succ]
    refine wpAnyH_take (i := 11) (oi := ?oi306) (v := .nilIface) ?hi306 (by kernel_rfl) (by kernel_rfl) (by kernel_rfl) ?hQ306 ?hy306 (by assumption) ?rest306
    case hi306 => (simp only [List.getElem?_toArray, List.getElem?_cons_zero, List.getElem?_cons_succ]; rfl)
    case hQ306 => exact fun _ _ _ h => h
    case hy306 => exact Or.inl ⟨by rfl, by (intro w hSw; (try dsimp only at hSw); go_simp )⟩
    simp only [Act.put, List.setIfInBounds_toArray, List.set_cons_zero, List.set_cons_succ]
    refine wpAnyH_ready (rs := [12]) (by kernel_rfl) (by simp) ?_
    refine AllReadyH.cons (o := ?oi307) ?hi307 (fun K hK => ?_) AllReadyH.nil
    case hi307 => (simp only [List.getElem?_toArray, List.getElem?_cons_zero, List.getElem?_cons_succ]; rfl)
    rw [if_pos (by rfl)]
    (with_reducible refine s_s (w.heap.size + 3) _ c hc2 ?_ ?_ ?_)
    · exact rfl
    · exact rfl
    intro W hnew ho
    replace hr := hr.only ho (by omega)
    replace hi := hi.only ho (by omega)
    replace hq := hq.only ho (by omega)
    replace hb := ho.bel _ _ (by omega) hb
    replace hc2 := hnew
    clear hHeld
    refine hK.out _ _ ?_ (fun hHeld => ?_)
    · exact ⟨hr, hi, Or.inr hc2, hb⟩
    clear hK K
    refine wpAnyH_take (i := 13) (oi := ?oi308) (v := .nilIface) ?hi308 (by kernel_rfl) (by kernel_rfl) (by kernel_rfl) ?hQ308 ?hy308 (by assumption) ?rest308
    case hi308 => (simp only [List.getElem?_toArray, List.getElem?_cons_zero, List.getElem?_cons_succ]; rfl)
    case hQ308 => exact fun _ _ _ h => h
    case hy308 => exact Or.inl ⟨by rfl, by (intro w hSw; (try dsimp only at hSw); go_simp )⟩
    simp only [Act.put, List.setIfInBounds_toArray, List.set_cons_zero, List.set_cons_succ]
    refine wpAnyH_done (by kernel_rfl) ?_ _
    have qa : W.cell? ⟨w.heap.size + 1, 0, none⟩ = some (.int .i64 55) := hi.cell 0
    have qb : W.cell? ⟨w.heap.size + 1, 1, none⟩ = some (.int .i64 (rd : Nat)) := hi.cell 1
    have qc : W.cell? ⟨w.heap.size + 1, 2, none⟩ = some (.int .i64 (s1 : Nat)) := hi.cell 2
    go_wp2_with (first | ((with_reducible refine ld_h w.heap.size _ hr ?_ ?_); exact rfl) | ((with_reducible refine ld_c w.heap.size _ hr ?_ ?_); exact rfl) | ((with_reducible refine ld_s (w.heap.size + 3) _ hc2 ?_ ?_); exact rfl) | ((with_reducible refine ld_op (w.heap.size + 1) _ hi ?_ ?_); exact rfl) | ((with_reducible refine ld_rd (w.heap.size + 1) _ hi ?_ ?_); exact rfl) | ((with_reducible refine ld_rs1 (w.heap.size + 1) _ hi ?_ ?_); exact rfl) | ((with_reducible refine ld_csr (w.heap.size + 1) _ hi ?_ ?_); exact rfl) | ((with_reducible refine ld_x w.heap.size s1 _ h1 hr ?_ ?_); exact rfl) | ((with_reducible refine st_c w.heap.size _ c hr ?_ ?_ ?_); exact rfl; exact rfl; intro W hnew ho; replace hi := hi.only ho (by omega); replace hq := hq.only ho (by omega); replace hc2 := hc2.only ho (by omega); replace hr := hnew; replace hb := ho.bel _ _ (by omega) hb) | (go_at_call 46; refine (HWr.out _).mono ?_; rintro e W ⟨rfl, hbc⟩; replace hr := hr.bl hbc; replace hi := hi.bl hbc; replace hq := hq.bl hbc; replace hc2 := hc2.bl hbc; replace hb := below_bl rfl hb hbc) | (go_at_call 45; refine (HN.out _).mono ?_; rintro e W ⟨rfl, hbc⟩; replace hr := hr.bl hbc; replace hi := hi.bl hbc; replace hq := hq.bl hbc; replace hc2 := hc2.bl hbc; replace hb := below_bl rfl hb hbc) | ((with_reducible refine st_h (w.heap.size + 2) _ (nextH (writeH (withC h c) rd old)) hq ?_ ?_ ?_); exact rfl; exact rfl; intro W hnew ho; replace hr := hr.only ho (by omega); replace hi := hi.only ho (by omega); replace hc2 := hc2.only ho (by omega); replace hq := hnew; replace hb := ho.bel _ _ (by omega) hb))
    refine bodyPost_ret (results_cell_row Tryd.results26 _ _ (w.heap.size + 2) _ _ _ _ rfl hq Tryd.underlying31 rfl size_hart) rfl ?_
    exact ⟨rfl, hb⟩

set_option maxHeartbeats 2000000 in
theorem control_55rD (h : H) (ok : h.Ok) (rd s1 s2 : Nat) (im cs : Int) (hrd : rd < 32) (h1 : s1 < 32) (v l : Nat) (hl : l < 4294967296) (h0 : s1 = 0) (old : Nat) (hold : old < 4294967296) (hR : readN h.c cs l = some old) (w : World) :
    Calls Tryd.prog 26 #[.agg h.cells, .agg (I6.cells ⟨55, (rd : Nat), (s1 : Nat), (s2 : Nat), im, cs⟩), .int .u32 v, .int .u32 l] w fun e w' => e = .returned (.agg (nextH (writeH h rd old)).cells) ∧ Below w.heap.size w w' := by
  have b1 : (0 : Int) ≤ s1 := by omega
  have b2 : (s1 : Int) < 32 := by omega
  have t2 : ((s1 : Int) != 0) = false := by simp; omega
  clear h0
  have HR := hide (fun w => cs_read_bl h.c ok.c cs l hl w)
  rw [hR] at HR
  simp only [readV] at HR
  clear hR
  have ok' : H.Ok h := ok
  have HWr := hide (fun w => write_any h rd hrd old w)
  have HN := hide (fun w => next_any _ (writeH_ok ok' rd hold) w)
  go_enter Tryd.func26, Tryd.ntmps26
  go_wp2_with (first | ((with_reducible refine bx_h w.heap.size h ?_ ?_ ?_); exact rfl; exact rfl; intro W hr hb hz) | ((with_reducible refine bx_i (w.heap.size + 1) ⟨55, (rd : Nat), (s1 : Nat), (s2 : Nat), im, cs⟩ ?_ ?_ ?_); exact hz.out; exact rfl; intro W hi hb' hz'; replace hr := hr.bl (hz.out ▸ hb'); replace hb := hb.trans (hb'.mono (by omega)); replace hz := hz') | ((with_reducible refine al_h (w.heap.size + 2) ?_ ?_); exact hz.out; intro W hq hb' hz'; replace hr := hr.bl (hz.out ▸ hb'); replace hi := hi.bl (hz.out ▸ hb'); replace hb := hb.trans (hb'.mono (by omega)); replace hz := hz'; have qa : W.cell? ⟨w.heap.size + 1, 0, none⟩ = some (.int .i64 55) := hi.cell 0; have qb : W.cell? ⟨w.heap.size + 1, 1, none⟩ = some (.int .i64 (rd : Nat)) := hi.cell 1; have qc : W.cell? ⟨w.heap.size + 1, 2, none⟩ = some (.int .i64 (s1 : Nat)) := hi.cell 2) | ((with_reducible refine al_c (w.heap.size + 3) ?_ ?_); exact hz.out; intro W hc2 hb' hz'; replace hr := hr.bl (hz.out ▸ hb'); replace hi := hi.bl (hz.out ▸ hb'); replace hq := hq.bl (hz.out ▸ hb'); replace hb := hb.trans (hb'.mono (by omega)); replace hz := hz'; have qa : W.cell? ⟨w.heap.size + 1, 0, none⟩ = some (.int .i64 55) := hi.cell 0; have qb : W.cell? ⟨w.heap.size + 1, 1, none⟩ = some (.int .i64 (rd : Nat)) := hi.cell 1; have qc : W.cell? ⟨w.heap.size + 1, 2, none⟩ = some (.int .i64 (s1 : Nat)) := hi.cell 2) | ((with_reducible refine st_s (w.heap.size + 3) _ h.c hc2 ?_ ?_ ?_); exact rfl; exact rfl; intro W hnew ho; replace hr := hr.only ho (by omega); replace hi := hi.only ho (by omega); replace hq := hq.only ho (by omega); replace hc2 := hnew; replace hb := ho.bel _ _ (by omega) hb; have qa : W.cell? ⟨w.heap.size + 1, 0, none⟩ = some (.int .i64 55) := hi.cell 0; have qb : W.cell? ⟨w.heap.size + 1, 1, none⟩ = some (.int .i64 (rd : Nat)) := hi.cell 1; have qc : W.cell? ⟨w.heap.size + 1, 2, none⟩ = some (.int .i64 (s1 : Nat)) := hi.cell 2) | (go_at_call 52; refine (HR.out _).mono ?_; rintro e W ⟨rfl, hbc⟩; replace hr := hr.bl hbc; replace hi := hi.bl hbc; replace hq := hq.bl hbc; replace hc2 := hc2.bl hbc; replace hb := below_bl rfl hb hbc; have qa : W.cell? ⟨w.heap.size + 1, 0, none⟩ = some (.int .i64 55) := hi.cell 0; have qb : W.cell? ⟨w.heap.size + 1, 1, none⟩ = some (.int .i64 (rd : Nat)) := hi.cell 1; have qc : W.cell? ⟨w.heap.size + 1, 2, none⟩ = some (.int .i64 (s1 : Nat)) := hi.cell 2) | ((with_reducible refine ld_h w.heap.size _ hr ?_ ?_); exact rfl) | ((with_reducible refine ld_c w.heap.size _ hr ?_ ?_); exact rfl) | ((with_reducible refine ld_s (w.heap.size + 3) _ hc2 ?_ ?_); exact rfl) | ((with_reducible refine ld_op (w.heap.size + 1) _ hi ?_ ?_); exact rfl) | ((with_reducible refine ld_rd (w.heap.size + 1) _ hi ?_ ?_); exact rfl) | ((with_reducible refine ld_rs1 (w.heap.size + 1) _ hi ?_ ?_); exact rfl) | ((with_reducible refine ld_csr (w.heap.size + 1) _ hi ?_ ?_); exact rfl) | ((with_reducible refine ld_x w.heap.size s1 _ h1 hr ?_ ?_); exact rfl) | ((with_reducible refine st_c w.heap.size _ h.c hr ?_ ?_ ?_); exact rfl; exact rfl; intro W hnew ho; replace hi := hi.only ho (by omega); replace hq := hq.only ho (by omega); replace hc2 := hc2.only ho (by omega); replace hr := hnew; replace hb := ho.bel _ _ (by omega) hb) | (go_at_call 46; refine (HWr.out _).mono ?_; rintro e W ⟨rfl, hbc⟩; replace hr := hr.bl hbc; replace hi := hi.bl hbc; replace hq := hq.bl hbc; replace hc2 := hc2.bl hbc; replace hb := below_bl rfl hb hbc) | (go_at_call 45; refine (HN.out _).mono ?_; rintro e W ⟨rfl, hbc⟩; replace hr := hr.bl hbc; replace hi := hi.bl hbc; replace hq := hq.bl hbc; replace hc2 := hc2.bl hbc; replace hb := below_bl rfl hb hbc) | ((with_reducible refine st_h (w.heap.size + 2) _ (nextH (writeH h rd old)) hq ?_ ?_ ?_); exact rfl; exact rfl; intro W hnew ho; replace hr := hr.only ho (by omega); replace hi := hi.only ho (by omega); replace hc2 := hc2.only ho (by omega); replace hq := hnew; replace hb := ho.bel _ _ (by omega) hb))
  refine bodyPost_ret (results_cell_row Tryd.results26 _ _ (w.heap.size + 2) _ _ _ _ rfl hq Tryd.underlying31 rfl size_hart) rfl ?_
  exact ⟨rfl, hb⟩

set_option maxHeartbeats 2000000 in
theorem control_56rA (h : H) (ok : h.Ok) (rd s1 s2 : Nat) (im cs : Int) (hrd : rd < 32) (h1 : s1 < 32) (v l : Nat) (hl : l < 4294967296) (hR : readN h.c cs l = none) (w : World) :
    Calls Tryd.prog 26 #[.agg h.cells, .agg (I6.cells ⟨56, (rd : Nat), (s1 : Nat), (s2 : Nat), im, cs⟩), .int .u32 v, .int .u32 l] w fun e w' => e = .returned (.agg (trapH h 2 v).cells) ∧ Below w.heap.size w w' := by
  have b1 : (0 : Int) ≤ s1 := by omega
  have b2 : (s1 : Int) < 32 := by omega
  have HR := hide (fun w => cs_read_bl h.c ok.c cs l hl w)
  rw [hR] at HR
  simp only [readV] at HR
  clear hR
  have HT := hide (fun w => trap_any h ok 2 v (by decide) w)
  rw [show (((2 : Nat) : Int)) = 2 from rfl] at HT
  go_enter Tryd.func26, Tryd.ntmps26
  go_wp2_with (first | ((with_reducible refine bx_h w.heap.size h ?_ ?_ ?_); exact rfl; exact rfl; intro W hr hb hz) | ((with_reducible refine bx_i (w.heap.size + 1) ⟨56, (rd : Nat), (s1 : Nat), (s2 : Nat), im, cs⟩ ?_ ?_ ?_); exact hz.out; exact rfl; intro W hi hb' hz'; replace hr := hr.bl (hz.out ▸ hb'); replace hb := hb.trans (hb'.mono (by omega)); replace hz := hz') | ((with_reducible refine al_h (w.heap.size + 2) ?_ ?_); exact hz.out; intro W hq hb' hz'; replace hr := hr.bl (hz.out ▸ hb'); replace hi := hi.bl (hz.out ▸ hb'); replace hb := hb.trans (hb'.mono (by omega)); replace hz := hz'; have qa : W.cell? ⟨w.heap.size + 1, 0, none⟩ = some (.int .i64 56) := hi.cell 0; have qb : W.cell? ⟨w.heap.size + 1, 1, none⟩ = some (.int .i64 (rd : Nat)) := hi.cell 1; have qc : W.cell? ⟨w.heap.size + 1, 2, none⟩ = some (.int .i64 (s1 : Nat)) := hi.cell 2) | ((with_reducible refine al_c (w.heap.size + 3) ?_ ?_); exact hz.out; intro W hc2 hb' hz'; replace hr := hr.bl (hz.out ▸ hb'); replace hi := hi.bl (hz.out ▸ hb'); replace hq := hq.bl (hz.out ▸ hb'); replace hb := hb.trans (hb'.mono (by omega)); replace hz := hz'; have qa : W.cell? ⟨w.heap.size + 1, 0, none⟩ = some (.int .i64 56) := hi.cell 0; have qb : W.cell? ⟨w.heap.size + 1, 1, none⟩ = some (.int .i64 (rd : Nat)) := hi.cell 1; have qc : W.cell? ⟨w.heap.size + 1, 2, none⟩ = some (.int .i64 (s1 : Nat)) := hi.cell 2) | ((with_reducible refine st_s (w.heap.size + 3) _ h.c hc2 ?_ ?_ ?_); exact rfl; exact rfl; intro W hnew ho; replace hr := hr.only ho (by omega); replace hi := hi.only ho (by omega); replace hq := hq.only ho (by omega); replace hc2 := hnew; replace hb := ho.bel _ _ (by omega) hb; have qa : W.cell? ⟨w.heap.size + 1, 0, none⟩ = some (.int .i64 56) := hi.cell 0; have qb : W.cell? ⟨w.heap.size + 1, 1, none⟩ = some (.int .i64 (rd : Nat)) := hi.cell 1; have qc : W.cell? ⟨w.heap.size + 1, 2, none⟩ = some (.int .i64 (s1 : Nat)) := hi.cell 2) | (go_at_call 52; refine (HR.out _).mono ?_; rintro e W ⟨rfl, hbc⟩; replace hr := hr.bl hbc; replace hi := hi.bl hbc; replace hq := hq.bl hbc; replace hc2 := hc2.bl hbc; replace hb := below_bl rfl hb hbc; have qa : W.cell? ⟨w.heap.size + 1, 0, none⟩ = some (.int .i64 56) := hi.cell 0; have qb : W.cell? ⟨w.heap.size + 1, 1, none⟩ = some (.int .i64 (rd : Nat)) := hi.cell 1; have qc : W.cell? ⟨w.heap.size + 1, 2, none⟩ = some (.int .i64 (s1 : Nat)) := hi.cell 2) | ((with_reducible refine ld_h w.heap.size _ hr ?_ ?_); exact rfl) | ((with_reducible refine ld_c w.heap.size _ hr ?_ ?_); exact rfl) | ((with_reducible refine ld_s (w.heap.size + 3) _ hc2 ?_ ?_); exact rfl) | ((with_reducible refine ld_op (w.heap.size + 1) _ hi ?_ ?_); exact rfl) | ((with_reducible refine ld_rd (w.heap.size + 1) _ hi ?_ ?_); exact rfl) | ((with_reducible refine ld_rs1 (w.heap.size + 1) _ hi ?_ ?_); exact rfl) | ((with_reducible refine ld_csr (w.heap.size + 1) _ hi ?_ ?_); exact rfl) | ((with_reducible refine ld_x w.heap.size s1 _ h1 hr ?_ ?_); exact rfl) | (go_at_call 22; refine (HT.out _).mono ?_; rintro e W ⟨rfl, hbc⟩; replace hr := hr.bl hbc; replace hi := hi.bl hbc; replace hq := hq.bl hbc; replace hc2 := hc2.bl hbc; replace hb := below_bl rfl hb hbc) | ((with_reducible refine st_h (w.heap.size + 2) _ (trapH h 2 v) hq ?_ ?_ ?_); exact rfl; exact rfl; intro W hnew ho; replace hr := hr.only ho (by omega); replace hi := hi.only ho (by omega); replace hc2 := hc2.only ho (by omega); replace hq := hnew; replace hb := ho.bel _ _ (by omega) hb))
  refine bodyPost_ret (results_cell_row Tryd.results26 _ _ (w.heap.size + 2) _ _ _ _ rfl hq Tryd.underlying31 rfl size_hart) rfl ?_
  exact ⟨rfl, hb⟩

set_option maxHeartbeats 2000000 in
theorem control_56rB (h : H) (ok : h.Ok) (rd s1 s2 : Nat) (im cs : Int) (hrd : rd < 32) (h1 : s1 < 32) (v l : Nat) (hl : l < 4294967296) (h0 : s1 ≠ 0) (old : Nat) (hold : old < 4294967296) (hR : readN h.c cs l = some old) (c : S8) (k : Nat) (hW : writeN h.c cs (mixN 56 old s1) = (c, k + 1)) (w : World) :
    Calls Tryd.prog 26 #[.agg h.cells, .agg (I6.cells ⟨56, (rd : Nat), (s1 : Nat), (s2 : Nat), im, cs⟩), .int .u32 v, .int .u32 l] w fun e w' => e = .returned (.agg (trapH h 2 v).cells) ∧ Below w.heap.size w w' := by
  have b1 : (0 : Int) ≤ s1 := by omega
  have b2 : (s1 : Int) < 32 := by omega
  have t2 : ((s1 : Int) != 0) = true := by simp; omega
  clear h0
  have HR := hide (fun w => cs_read_bl h.c ok.c cs l hl w)
  rw [hR] at HR
  simp only [readV] at HR
  clear hR
  have HM : Hid (∀ z : Int, z = ((s1 : Nat) : Int) → ∀ w, Calls Tryd.prog 54 #[.int .i64 56, .int .u32 old, .int .u32 z] w fun e w' => e = .returned (.int .u32 ((mixN 56 old s1) : Nat)) ∧ w' = w) := hide (fun z hz w => by rw [hz]; exact mixed_56 old s1 hold (by omega : s1 < 4294967296) w)
  have HW := hide (fun w => cs_write_bl h.c ok.c cs (mixN 56 old s1) (mixN_lt 56 hold (by omega : s1 < 4294967296)) w)
  rw [hW] at HW
  simp only [errW] at HW
  clear hW
  generalize (mixN 56 old s1) = M at HM HW
  have HT := hide (fun w => trap_any h ok 2 v (by decide) w)
  rw [show (((2 : Nat) : Int)) = 2 from rfl] at HT
  go_enter Tryd.func26, Tryd.ntmps26
  go_wp2_with (first | ((with_reducible refine bx_h w.heap.size h ?_ ?_ ?_); exact rfl; exact rfl; intro W hr hb hz) | ((with_reducible refine bx_i (w.heap.size + 1) ⟨56, (rd : Nat), (s1 : Nat), (s2 : Nat), im, cs⟩ ?_ ?_ ?_); exact hz.out; exact rfl; intro W hi hb' hz'; replace hr := hr.bl (hz.out ▸ hb'); replace hb := hb.trans (hb'.mono (by omega)); replace hz := hz') | ((with_reducible refine al_h (w.heap.size + 2) ?_ ?_); exact hz.out; intro W hq hb' hz'; replace hr := hr.bl (hz.out ▸ hb'); replace hi := hi.bl (hz.out ▸ hb'); replace hb := hb.trans (hb'.mono (by omega)); replace hz := hz'; have qa : W.cell? ⟨w.heap.size + 1, 0, none⟩ = some (.int .i64 56) := hi.cell 0; have qb : W.cell? ⟨w.heap.size + 1, 1, none⟩ = some (.int .i64 (rd : Nat)) := hi.cell 1; have qc : W.cell? ⟨w.heap.size + 1, 2, none⟩ = some (.int .i64 (s1 : Nat)) := hi.cell 2) | ((with_reducible refine al_c (w.heap.size + 3) ?_ ?_); exact hz.out; intro W hc2 hb' hz'; replace hr := hr.bl (hz.out ▸ hb'); replace hi := hi.bl (hz.out ▸ hb'); replace hq := hq.bl (hz.out ▸ hb'); replace hb := hb.trans (hb'.mono (by omega)); replace hz := hz'; have qa : W.cell? ⟨w.heap.size + 1, 0, none⟩ = some (.int .i64 56) := hi.cell 0; have qb : W.cell? ⟨w.heap.size + 1, 1, none⟩ = some (.int .i64 (rd : Nat)) := hi.cell 1; have qc : W.cell? ⟨w.heap.size + 1, 2, none⟩ = some (.int .i64 (s1 : Nat)) := hi.cell 2) | ((with_reducible refine st_s (w.heap.size + 3) _ h.c hc2 ?_ ?_ ?_); exact rfl; exact rfl; intro W hnew ho; replace hr := hr.only ho (by omega); replace hi := hi.only ho (by omega); replace hq := hq.only ho (by omega); replace hc2 := hnew; replace hb := ho.bel _ _ (by omega) hb; have qa : W.cell? ⟨w.heap.size + 1, 0, none⟩ = some (.int .i64 56) := hi.cell 0; have qb : W.cell? ⟨w.heap.size + 1, 1, none⟩ = some (.int .i64 (rd : Nat)) := hi.cell 1; have qc : W.cell? ⟨w.heap.size + 1, 2, none⟩ = some (.int .i64 (s1 : Nat)) := hi.cell 2) | (go_at_call 52; refine (HR.out _).mono ?_; rintro e W ⟨rfl, hbc⟩; replace hr := hr.bl hbc; replace hi := hi.bl hbc; replace hq := hq.bl hbc; replace hc2 := hc2.bl hbc; replace hb := below_bl rfl hb hbc; have qa : W.cell? ⟨w.heap.size + 1, 0, none⟩ = some (.int .i64 56) := hi.cell 0; have qb : W.cell? ⟨w.heap.size + 1, 1, none⟩ = some (.int .i64 (rd : Nat)) := hi.cell 1; have qc : W.cell? ⟨w.heap.size + 1, 2, none⟩ = some (.int .i64 (s1 : Nat)) := hi.cell 2) | ((with_reducible refine ld_h w.heap.size _ hr ?_ ?_); exact rfl) | ((with_reducible refine ld_c w.heap.size _ hr ?_ ?_); exact rfl) | ((with_reducible refine ld_s (w.heap.size + 3) _ hc2 ?_ ?_); exact rfl) | ((with_reducible refine ld_op (w.heap.size + 1) _ hi ?_ ?_); exact rfl) | ((with_reducible refine ld_rd (w.heap.size + 1) _ hi ?_ ?_); exact rfl) | ((with_reducible refine ld_rs1 (w.heap.size + 1) _ hi ?_ ?_); exact rfl) | ((with_reducible refine ld_csr (w.heap.size + 1) _ hi ?_ ?_); exact rfl) | ((with_reducible refine ld_x w.heap.size s1 _ h1 hr ?_ ?_); exact rfl))
  refine wp_region_held_drew (S := (fun V => RowAt V w.heap.size h.cells 31 ∧ RowAt V (w.heap.size + 1) (I6.cells ⟨56, (rd : Nat), (s1 : Nat), (s2 : Nat), im, cs⟩) 61 ∧ (RowAt V (w.heap.size + 3) h.c.cells 29 ∨ RowAt V (w.heap.size + 3) c.cells 29) ∧ Below w.heap.size w V)) (by kernel_rfl) ?_ (fun hHeld => ?_)
  · exact ⟨hr.dr, hi.dr, Or.inl hc2.dr, hb.drew⟩
  replace hq := hq.dr
  replace hc2 := hc2.dr
  refine wpAnyH_take (i := 1) (oi := ?oi309) (v := .pointer (some ⟨w.heap.size + 1, 5, none⟩)) ?hi309 (by kernel_rfl) (by kernel_rfl) (by kernel_rfl) ?hQ309 ?hy309 (by assumption) ?rest309
  case hi309 => (simp only [List.getElem?_toArray, List.getElem?_cons_zero, List.getElem?_cons_succ]; rfl)
  case hQ309 => exact fun _ _ _ h => h
  case hy309 => exact Or.inl ⟨by rfl, by (intro w hSw; (try dsimp only at hSw); go_simp )⟩
  simp only [Act.put, List.setIfInBounds_toArray, List.set_cons_zero, List.set_cons_succ]
  refine wpAnyH_take (i := 2) (oi := ?oi310) (v := .int .i64 cs) ?hi310 (by kernel_rfl) (by kernel_rfl) (by kernel_rfl) ?hQ310 ?hy310 (by assumption) ?rest310
  case hi310 => (simp only [List.getElem?_toArray, List.getElem?_cons_zero, List.getElem?_cons_succ]; rfl)
  case hQ310 => exact fun _ _ _ h => h
  case hy310 => exact y_int (w.heap.size + 1) 5 _ (fun V hV => (hV.2.1.cell 5).trans rfl) rfl
  simp only [Act.put, List.setIfInBounds_toArray, List.set_cons_zero, List.set_cons_succ]
  refine wpAnyH_take (i := 3) (oi := ?oi311) (v := .pointer (some ⟨w.heap.size + 1, 0, none⟩)) ?hi311 (by kernel_rfl) (by kernel_rfl) (by kernel_rfl) ?hQ311 ?hy311 (by assumption) ?rest311
  case hi311 => (simp only [List.getElem?_toArray, List.getElem?_cons_zero, List.getElem?_cons_succ]; rfl)
  case hQ311 => exact fun _ _ _ h => h
  case hy311 => exact Or.inl ⟨by rfl, by (intro w hSw; (try dsimp only at hSw); go_simp )⟩
  simp only [Act.put, List.setIfInBounds_toArray, List.set_cons_zero, List.set_cons_succ]
  refine wpAnyH_take (i := 4) (oi := ?oi312) (v := .int .i64 56) ?hi312 (by kernel_rfl) (by kernel_rfl) (by kernel_rfl) ?hQ312 ?hy312 (by assumption) ?rest312
  case hi312 => (simp only [List.getElem?_toArray, List.getElem?_cons_zero, List.getElem?_cons_succ]; rfl)
  case hQ312 => exact fun _ _ _ h => h
  case hy312 => exact y_int (w.heap.size + 1) 0 _ (fun V hV => (hV.2.1.cell 0).trans rfl) rfl
  simp only [Act.put, List.setIfInBounds_toArray, List.set_cons_zero, List.set_cons_succ]
  refine wpAnyH_take (i := 5) (oi := ?oi313) (v := .int .u32 (old : Nat)) ?hi313 (by kernel_rfl) (by kernel_rfl) (by kernel_rfl) ?hQ313 ?hy313 (by assumption) ?rest313
  case hi313 => (simp only [List.getElem?_toArray, List.getElem?_cons_zero, List.getElem?_cons_succ]; rfl)
  case hQ313 => exact fun _ _ _ h => h
  case hy313 => exact Or.inl ⟨by rfl, by (intro w hSw; (try dsimp only at hSw); go_simp )⟩
  simp only [Act.put, List.setIfInBounds_toArray, List.set_cons_zero, List.set_cons_succ]
  refine wpAnyH_take (i := 6) (oi := ?oi314) (v := .int .u32 (s1 : Nat)) ?hi314 (by kernel_rfl) (by kernel_rfl) (by kernel_rfl) ?hQ314 ?hy314 (by assumption) ?rest314
  case hi314 => (simp only [List.getElem?_toArray, List.getElem?_cons_zero, List.getElem?_cons_succ]; rfl)
  case hQ314 => exact fun _ _ _ h => h
  case hy314 => exact Or.inl ⟨by rfl, by (intro w hSw; (try dsimp only at hSw); go_simp <;> omega)⟩
  simp only [Act.put, List.setIfInBounds_toArray, List.set_cons_zero, List.set_cons_succ]
  refine wpAnyH_ready (rs := [0, 7]) (by kernel_rfl) (by simp) ?_
  refine AllReadyH.cons (o := ?oi315) ?hi315 (fun K hK => ?b315) (AllReadyH.cons (o := ?oi316) ?hi316 (fun K hK => ?b316) AllReadyH.nil)
  case hi315 => (simp only [List.getElem?_toArray, List.getElem?_cons_zero]; rfl)
  case hi316 => (simp only [List.getElem?_toArray, List.getElem?_cons_zero, List.getElem?_cons_succ]; rfl)
  case b315 =>
    rw [if_pos (by rfl)]
    (with_reducible refine w_ld_s (w.heap.size + 3) h.c hc2 ?_ ?_)
    · exact rfl
    simp only [Act.put, List.setIfInBounds_toArray, List.set_cons_zero, List.set_cons_succ]
    refine hK.out _ _ ?_ (fun hHeld => ?_)
    · exact hHeld
    clear hK K
    refine wpAnyH_ready (rs := [7]) (by kernel_rfl) (by simp) ?_
    refine AllReadyH.cons (o := ?oi317) ?hi317 (fun K hK => ?_) AllReadyH.nil
    case hi317 => (simp only [List.getElem?_toArray, List.getElem?_cons_zero, List.getElem?_cons_succ]; rfl)
    go_simp
    refine (HM.out _ ?_ _).mono ?_
    · first | rfl | omega
    rintro e V ⟨rfl, rfl⟩
    go_simp
    refine hK.out _ _ ?_ (fun hHeld => ?_)
    · exact hHeld
    clear hK K
    refine wpAnyH_ready (rs := [8]) (by kernel_rfl) (by simp) ?_
    refine AllReadyH.cons (o := ?oi318) ?hi318 (fun K hK => ?_) AllReadyH.nil
    case hi318 => (simp only [List.getElem?_toArray, List.getElem?_cons_zero, List.getElem?_cons_succ]; rfl)
    go_simp
    refine (HW.out _).mono ?_
    rintro e V ⟨rfl, hbc⟩
    replace hr := hHeld.1.bl hbc
    replace hi := hHeld.2.1.bl hbc
    replace hb := below_bl rfl hHeld.2.2.2 hbc
    replace hq := hq.bl hbc
    replace hc2 := hc2.bl hbc
    clear hHeld
    go_simp
    refine hK.out _ _ ?_ (fun hHeld => ?_)
    · exact ⟨hr, hi, Or.inl hc2, hb⟩
    clear hK K
    refine wpAnyH_take (i := 9) (oi := ?oi319) (v := .tuple #[.agg c.cells, (.iface 89 (.int .i64 ((k : Int) + 1)))]) ?hi319 (by kernel_rfl) (by kernel_rfl) (by kernel_rfl) ?hQ319 ?hy319 (by assumption) ?rest319
    case hi319 => (simp only [List.getElem?_toArray, List.getElem?_cons_zero, List.getElem?_cons_succ]; rfl)
    case hQ319 => exact fun _ _ _ h => h
    case hy319 => exact Or.inl ⟨by rfl, by (intro w hSw; (try dsimp only at hSw); go_simp )⟩
    simp only [Act.put, List.setIfInBounds_toArray, List.set_cons_zero, List.set_cons_succ]
    refine wpAnyH_take (i := 10) (oi := ?oi320) (v := .agg c.cells) ?hi320 (by kernel_rfl) (by kernel_rfl) (by kernel_rfl) ?hQ320 ?hy320 (by assumption) ?rest320
    case hi320 => (simp only [List.getElem?_toArray, List.getElem?_cons_zero, List.getElem?_cons_succ]; rfl)
    case hQ320 => exact fun _ _ _ h => h
    case hy320 => exact Or.inl ⟨by rfl, by (intro w hSw; (try dsimp only at hSw); go_simp )⟩
    simp only [Act.put, List.setIfInBounds_toArray, List.set_cons_zero, List.set_cons_succ]
    refine wpAnyH_take (i := 11) (oi := ?oi321) (v := (.iface 89 (.int .i64 ((k : Int) + 1)))) ?hi321 (by kernel_rfl) (by kernel_rfl) (by kernel_rfl) ?hQ321 ?hy321 (by assumption) ?rest321
    case hi321 => (simp only [List.getElem?_toArray, List.getElem?_cons_zero, List.getElem?_cons_succ]; rfl)
    case hQ321 => exact fun _ _ _ h => h
    case hy321 => exact Or.inl ⟨by rfl, by (intro w hSw; (try dsimp only at hSw); go_simp )⟩
    simp only [Act.put, List.setIfInBounds_toArray, List.set_cons_zero, List.set_cons_succ]
    refine wpAnyH_ready (rs := [12]) (by kernel_rfl) (by simp) ?_
    refine AllReadyH.cons (o := ?oi322) ?hi322 (fun K hK => ?_) AllReadyH.nil
    case hi322 => (simp only [List.getElem?_toArray, List.getElem?_cons_zero, List.getElem?_cons_succ]; rfl)
    rw [if_pos (by rfl)]
    (with_reducible refine s_s (w.heap.size + 3) _ c hc2 ?_ ?_ ?_)
    · exact rfl
    · exact rfl
    intro W hnew ho
    replace hr := hr.only ho (by omega)
    replace hi := hi.only ho (by omega)
    replace hq := hq.only ho (by omega)
    replace hb := ho.bel _ _ (by omega) hb
    replace hc2 := hnew
    clear hHeld
    refine hK.out _ _ ?_ (fun hHeld => ?_)
    · exact ⟨hr, hi, Or.inr hc2, hb⟩
    clear hK K
    refine wpAnyH_take (i := 13) (oi := ?oi323) (v := (.iface 89 (.int .i64 ((k : Int) + 1)))) ?hi323 (by kernel_rfl) (by kernel_rfl) (by kernel_rfl) ?hQ323 ?hy323 (by assumption) ?rest323
    case hi323 => (simp only [List.getElem?_toArray, List.getElem?_cons_zero, List.getElem?_cons_succ]; rfl)
    case hQ323 => exact fun _ _ _ h => h
    case hy323 => exact Or.inl ⟨by rfl, by (intro w hSw; (try dsimp only at hSw); go_simp )⟩
    simp only [Act.put, List.setIfInBounds_toArray, List.set_cons_zero, List.set_cons_succ]
    refine wpAnyH_done (by kernel_rfl) ?_ _
    have qa : W.cell? ⟨w.heap.size + 1, 0, none⟩ = some (.int .i64 56) := hi.cell 0
    have qb : W.cell? ⟨w.heap.size + 1, 1, none⟩ = some (.int .i64 (rd : Nat)) := hi.cell 1
    have qc : W.cell? ⟨w.heap.size + 1, 2, none⟩ = some (.int .i64 (s1 : Nat)) := hi.cell 2
    go_wp2_with (first | ((with_reducible refine ld_h w.heap.size _ hr ?_ ?_); exact rfl) | ((with_reducible refine ld_c w.heap.size _ hr ?_ ?_); exact rfl) | ((with_reducible refine ld_s (w.heap.size + 3) _ hc2 ?_ ?_); exact rfl) | ((with_reducible refine ld_op (w.heap.size + 1) _ hi ?_ ?_); exact rfl) | ((with_reducible refine ld_rd (w.heap.size + 1) _ hi ?_ ?_); exact rfl) | ((with_reducible refine ld_rs1 (w.heap.size + 1) _ hi ?_ ?_); exact rfl) | ((with_reducible refine ld_csr (w.heap.size + 1) _ hi ?_ ?_); exact rfl) | ((with_reducible refine ld_x w.heap.size s1 _ h1 hr ?_ ?_); exact rfl) | (go_at_call 22; refine (HT.out _).mono ?_; rintro e W ⟨rfl, hbc⟩; replace hr := hr.bl hbc; replace hi := hi.bl hbc; replace hq := hq.bl hbc; replace hc2 := hc2.bl hbc; replace hb := below_bl rfl hb hbc) | ((with_reducible refine st_h (w.heap.size + 2) _ (trapH h 2 v) hq ?_ ?_ ?_); exact rfl; exact rfl; intro W hnew ho; replace hr := hr.only ho (by omega); replace hi := hi.only ho (by omega); replace hc2 := hc2.only ho (by omega); replace hq := hnew; replace hb := ho.bel _ _ (by omega) hb))
    refine bodyPost_ret (results_cell_row Tryd.results26 _ _ (w.heap.size + 2) _ _ _ _ rfl hq Tryd.underlying31 rfl size_hart) rfl ?_
    exact ⟨rfl, hb⟩
  case b316 =>
    go_simp
    refine (HM.out _ ?_ _).mono ?_
    · first | rfl | omega
    rintro e V ⟨rfl, rfl⟩
    go_simp
    refine hK.out _ _ ?_ (fun hHeld => ?_)
    · exact hHeld
    clear hK K
    refine wpAnyH_ready (rs := [0]) (by kernel_rfl) (by simp) ?_
    refine AllReadyH.cons (o := ?oi324) ?hi324 (fun K hK => ?_) AllReadyH.nil
    case hi324 => (simp only [List.getElem?_toArray, List.getElem?_cons_zero]; rfl)
    rw [if_pos (by rfl)]
    (with_reducible refine w_ld_s (w.heap.size + 3) h.c hc2 ?_ ?_)
    · exact rfl
    simp only [Act.put, List.setIfInBounds_toArray, List.set_cons_zero, List.set_cons_succ]
    refine hK.out _ _ ?_ (fun hHeld => ?_)
    · exact hHeld
    clear hK K
    refine wpAnyH_ready (rs := [8]) (by kernel_rfl) (by simp) ?_
    refine AllReadyH.cons (o := ?oi325) ?hi325 (fun K hK => ?_) AllReadyH.nil
    case hi325 => (simp only [List.getElem?_toArray, List.getElem?_cons_zero, List.getElem?_cons_succ]; rfl)
    go_simp
    refine (HW.out _).mono ?_
    rintro e V ⟨rfl, hbc⟩
    replace hr := hHeld.1.bl hbc
    replace hi := hHeld.2.1.bl hbc
    replace hb := below_bl rfl hHeld.2.2.2 hbc
    replace hq := hq.bl hbc
    replace hc2 := hc2.bl hbc
    clear hHeld
    go_simp
    refine hK.out _ _ ?_ (fun hHeld => ?_)
    · exact ⟨hr, hi, Or.inl hc2, hb⟩
    clear hK K
    refine wpAnyH_take (i := 9) (oi := ?oi326) (v := .tuple #[.agg c.cells, (.iface 89 (.int .i64 ((k : Int) + 1)))]) ?hi326 (by kernel_rfl) (by kernel_rfl) (by kernel_rfl) ?hQ326 ?hy326 (by assumption) ?rest326
    case hi326 => (simp only [List.getElem?_toArray, List.getElem?_cons_zero, List.getElem?_cons_succ]; rfl)
    case hQ326 => exact fun _ _ _ h => h
    case hy326 => exact Or.inl ⟨by rfl, by (intro w hSw; (try dsimp only at hSw); go_simp )⟩
    simp only [Act.put, List.setIfInBounds_toArray, List.set_cons_zero, List.set_cons_succ]
    refine wpAnyH_take (i := 10) (oi := ?oi327) (v := .agg c.cells) ?hi327 (by kernel_rfl) (by kernel_rfl) (by kernel_rfl) ?hQ327 ?hy327 (by assumption) ?rest327
    case hi327 => (simp only [List.getElem?_toArray, List.getElem?_cons_zero, List.getElem?_cons_succ]; rfl)
    case hQ327 => exact fun _ _ _ h => h
    case hy327 => exact Or.inl ⟨by rfl, by (intro w hSw; (try dsimp only at hSw); go_simp )⟩
    simp only [Act.put, List.setIfInBounds_toArray, List.set_cons_zero, List.set_cons_succ]
    refine wpAnyH_take (i := 11) (oi := ?oi328) (v := (.iface 89 (.int .i64 ((k : Int) + 1)))) ?hi328 (by kernel_rfl) (by kernel_rfl) (by kernel_rfl) ?hQ328 ?hy328 (by assumption) ?rest328
    case hi328 => (simp only [List.getElem?_toArray, List.getElem?_cons_zero, List.getElem?_cons_succ]; rfl)
    case hQ328 => exact fun _ _ _ h => h
    case hy328 => exact Or.inl ⟨by rfl, by (intro w hSw; (try dsimp only at hSw); go_simp )⟩
    simp only [Act.put, List.setIfInBounds_toArray, List.set_cons_zero, List.set_cons_succ]
    refine wpAnyH_ready (rs := [12]) (by kernel_rfl) (by simp) ?_
    refine AllReadyH.cons (o := ?oi329) ?hi329 (fun K hK => ?_) AllReadyH.nil
    case hi329 => (simp only [List.getElem?_toArray, List.getElem?_cons_zero, List.getElem?_cons_succ]; rfl)
    rw [if_pos (by rfl)]
    (with_reducible refine s_s (w.heap.size + 3) _ c hc2 ?_ ?_ ?_)
    · exact rfl
    · exact rfl
    intro W hnew ho
    replace hr := hr.only ho (by omega)
    replace hi := hi.only ho (by omega)
    replace hq := hq.only ho (by omega)
    replace hb := ho.bel _ _ (by omega) hb
    replace hc2 := hnew
    clear hHeld
    refine hK.out _ _ ?_ (fun hHeld => ?_)
    · exact ⟨hr, hi, Or.inr hc2, hb⟩
    clear hK K
    refine wpAnyH_take (i := 13) (oi := ?oi330) (v := (.iface 89 (.int .i64 ((k : Int) + 1)))) ?hi330 (by kernel_rfl) (by kernel_rfl) (by kernel_rfl) ?hQ330 ?hy330 (by assumption) ?rest330
    case hi330 => (simp only [List.getElem?_toArray, List.getElem?_cons_zero, List.getElem?_cons_succ]; rfl)
    case hQ330 => exact fun _ _ _ h => h
    case hy330 => exact Or.inl ⟨by rfl, by (intro w hSw; (try dsimp only at hSw); go_simp )⟩
    simp only [Act.put, List.setIfInBounds_toArray, List.set_cons_zero, List.set_cons_succ]
    refine wpAnyH_done (by kernel_rfl) ?_ _
    have qa : W.cell? ⟨w.heap.size + 1, 0, none⟩ = some (.int .i64 56) := hi.cell 0
    have qb : W.cell? ⟨w.heap.size + 1, 1, none⟩ = some (.int .i64 (rd : Nat)) := hi.cell 1
    have qc : W.cell? ⟨w.heap.size + 1, 2, none⟩ = some (.int .i64 (s1 : Nat)) := hi.cell 2
    go_wp2_with (first | ((with_reducible refine ld_h w.heap.size _ hr ?_ ?_); exact rfl) | ((with_reducible refine ld_c w.heap.size _ hr ?_ ?_); exact rfl) | ((with_reducible refine ld_s (w.heap.size + 3) _ hc2 ?_ ?_); exact rfl) | ((with_reducible refine ld_op (w.heap.size + 1) _ hi ?_ ?_); exact rfl) | ((with_reducible refine ld_rd (w.heap.size + 1) _ hi ?_ ?_); exact rfl) | ((with_reducible refine ld_rs1 (w.heap.size + 1) _ hi ?_ ?_); exact rfl) | ((with_reducible refine ld_csr (w.heap.size + 1) _ hi ?_ ?_); exact rfl) | ((with_reducible refine ld_x w.heap.size s1 _ h1 hr ?_ ?_); exact rfl) | (go_at_call 22; refine (HT.out _).mono ?_; rintro e W ⟨rfl, hbc⟩; replace hr := hr.bl hbc; replace hi := hi.bl hbc; replace hq := hq.bl hbc; replace hc2 := hc2.bl hbc; replace hb := below_bl rfl hb hbc) | ((with_reducible refine st_h (w.heap.size + 2) _ (trapH h 2 v) hq ?_ ?_ ?_); exact rfl; exact rfl; intro W hnew ho; replace hr := hr.only ho (by omega); replace hi := hi.only ho (by omega); replace hc2 := hc2.only ho (by omega); replace hq := hnew; replace hb := ho.bel _ _ (by omega) hb))
    refine bodyPost_ret (results_cell_row Tryd.results26 _ _ (w.heap.size + 2) _ _ _ _ rfl hq Tryd.underlying31 rfl size_hart) rfl ?_
    exact ⟨rfl, hb⟩

set_option maxHeartbeats 2000000 in
theorem control_56rC (h : H) (ok : h.Ok) (rd s1 s2 : Nat) (im cs : Int) (hrd : rd < 32) (h1 : s1 < 32) (v l : Nat) (hl : l < 4294967296) (h0 : s1 ≠ 0) (old : Nat) (hold : old < 4294967296) (hR : readN h.c cs l = some old) (c : S8) (hc : c.Ok) (hW : writeN h.c cs (mixN 56 old s1) = (c, 0)) (w : World) :
    Calls Tryd.prog 26 #[.agg h.cells, .agg (I6.cells ⟨56, (rd : Nat), (s1 : Nat), (s2 : Nat), im, cs⟩), .int .u32 v, .int .u32 l] w fun e w' => e = .returned (.agg (nextH (writeH (withC h c) rd old)).cells) ∧ Below w.heap.size w w' := by
  have b1 : (0 : Int) ≤ s1 := by omega
  have b2 : (s1 : Int) < 32 := by omega
  have t2 : ((s1 : Int) != 0) = true := by simp; omega
  clear h0
  have HR := hide (fun w => cs_read_bl h.c ok.c cs l hl w)
  rw [hR] at HR
  simp only [readV] at HR
  clear hR
  have HM : Hid (∀ z : Int, z = ((s1 : Nat) : Int) → ∀ w, Calls Tryd.prog 54 #[.int .i64 56, .int .u32 old, .int .u32 z] w fun e w' => e = .returned (.int .u32 ((mixN 56 old s1) : Nat)) ∧ w' = w) := hide (fun z hz w => by rw [hz]; exact mixed_56 old s1 hold (by omega : s1 < 4294967296) w)
  have HW := hide (fun w => cs_write_bl h.c ok.c cs (mixN 56 old s1) (mixN_lt 56 hold (by omega : s1 < 4294967296)) w)
  rw [hW] at HW
  simp only [errW] at HW
  clear hW
  generalize (mixN 56 old s1) = M at HM HW
  have ok' : H.Ok (withC h c) := ⟨ok.pc, ok.x, hc⟩
  have HWr := hide (fun w => write_any (withC h c) rd hrd old w)
  have HN := hide (fun w => next_any _ (writeH_ok ok' rd hold) w)
  go_enter Tryd.func26, Tryd.ntmps26
  go_wp2_with (first | ((with_reducible refine bx_h w.heap.size h ?_ ?_ ?_); exact rfl; exact rfl; intro W hr hb hz) | ((with_reducible refine bx_i (w.heap.size + 1) ⟨56, (rd : Nat), (s1 : Nat), (s2 : Nat), im, cs⟩ ?_ ?_ ?_); exact hz.out; exact rfl; intro W hi hb' hz'; replace hr := hr.bl (hz.out ▸ hb'); replace hb := hb.trans (hb'.mono (by omega)); replace hz := hz') | ((with_reducible refine al_h (w.heap.size + 2) ?_ ?_); exact hz.out; intro W hq hb' hz'; replace hr := hr.bl (hz.out ▸ hb'); replace hi := hi.bl (hz.out ▸ hb'); replace hb := hb.trans (hb'.mono (by omega)); replace hz := hz'; have qa : W.cell? ⟨w.heap.size + 1, 0, none⟩ = some (.int .i64 56) := hi.cell 0; have qb : W.cell? ⟨w.heap.size + 1, 1, none⟩ = some (.int .i64 (rd : Nat)) := hi.cell 1; have qc : W.cell? ⟨w.heap.size + 1, 2, none⟩ = some (.int .i64 (s1 : Nat)) := hi.cell 2) | ((with_reducible refine al_c (w.heap.size + 3) ?_ ?_); exact hz.out; intro W hc2 hb' hz'; replace hr := hr.bl (hz.out ▸ hb'); replace hi := hi.bl (hz.out ▸ hb'); replace hq := hq.bl (hz.out ▸ hb'); replace hb := hb.trans (hb'.mono (by omega)); replace hz := hz'; have qa : W.cell? ⟨w.heap.size + 1, 0, none⟩ = some (.int .i64 56) := hi.cell 0; have qb : W.cell? ⟨w.heap.size + 1, 1, none⟩ = some (.int .i64 (rd : Nat)) := hi.cell 1; have qc : W.cell? ⟨w.heap.size + 1, 2, none⟩ = some (.int .i64 (s1 : Nat)) := hi.cell 2) | ((with_reducible refine st_s (w.heap.size + 3) _ h.c hc2 ?_ ?_ ?_); exact rfl; exact rfl; intro W hnew ho; replace hr := hr.only ho (by omega); replace hi := hi.only ho (by omega); replace hq := hq.only ho (by omega); replace hc2 := hnew; replace hb := ho.bel _ _ (by omega) hb; have qa : W.cell? ⟨w.heap.size + 1, 0, none⟩ = some (.int .i64 56) := hi.cell 0; have qb : W.cell? ⟨w.heap.size + 1, 1, none⟩ = some (.int .i64 (rd : Nat)) := hi.cell 1; have qc : W.cell? ⟨w.heap.size + 1, 2, none⟩ = some (.int .i64 (s1 : Nat)) := hi.cell 2) | (go_at_call 52; refine (HR.out _).mono ?_; rintro e W ⟨rfl, hbc⟩; replace hr := hr.bl hbc; replace hi := hi.bl hbc; replace hq := hq.bl hbc; replace hc2 := hc2.bl hbc; replace hb := below_bl rfl hb hbc; have qa : W.cell? ⟨w.heap.size + 1, 0, none⟩ = some (.int .i64 56) := hi.cell 0; have qb : W.cell? ⟨w.heap.size + 1, 1, none⟩ = some (.int .i64 (rd : Nat)) := hi.cell 1; have qc : W.cell? ⟨w.heap.size + 1, 2, none⟩ = some (.int .i64 (s1 : Nat)) := hi.cell 2) | ((with_reducible refine ld_h w.heap.size _ hr ?_ ?_); exact rfl) | ((with_reducible refine ld_c w.heap.size _ hr ?_ ?_); exact rfl) | ((with_reducible refine ld_s (w.heap.size + 3) _ hc2 ?_ ?_); exact rfl) | ((with_reducible refine ld_op (w.heap.size + 1) _ hi ?_ ?_); exact rfl) | ((with_reducible refine ld_rd (w.heap.size + 1) _ hi ?_ ?_); exact rfl) | ((with_reducible refine ld_rs1 (w.heap.size + 1) _ hi ?_ ?_); exact rfl) | ((with_reducible refine ld_csr (w.heap.size + 1) _ hi ?_ ?_); exact rfl) | ((with_reducible refine ld_x w.heap.size s1 _ h1 hr ?_ ?_); exact rfl))
  refine wp_region_held_drew (S := (fun V => RowAt V w.heap.size h.cells 31 ∧ RowAt V (w.heap.size + 1) (I6.cells ⟨56, (rd : Nat), (s1 : Nat), (s2 : Nat), im, cs⟩) 61 ∧ (RowAt V (w.heap.size + 3) h.c.cells 29 ∨ RowAt V (w.heap.size + 3) c.cells 29) ∧ Below w.heap.size w V)) (by kernel_rfl) ?_ (fun hHeld => ?_)
  · exact ⟨hr.dr, hi.dr, Or.inl hc2.dr, hb.drew⟩
  replace hq := hq.dr
  replace hc2 := hc2.dr
  refine wpAnyH_take (i := 1) (oi := ?oi331) (v := .pointer (some ⟨w.heap.size + 1, 5, none⟩)) ?hi331 (by kernel_rfl) (by kernel_rfl) (by kernel_rfl) ?hQ331 ?hy331 (by assumption) ?rest331
  case hi331 => (simp only [List.getElem?_toArray, List.getElem?_cons_zero, List.getElem?_cons_succ]; rfl)
  case hQ331 => exact fun _ _ _ h => h
  case hy331 => exact Or.inl ⟨by rfl, by (intro w hSw; (try dsimp only at hSw); go_simp )⟩
  simp only [Act.put, List.setIfInBounds_toArray, List.set_cons_zero, List.set_cons_succ]
  refine wpAnyH_take (i := 2) (oi := ?oi332) (v := .int .i64 cs) ?hi332 (by kernel_rfl) (by kernel_rfl) (by kernel_rfl) ?hQ332 ?hy332 (by assumption) ?rest332
  case hi332 => (simp only [List.getElem?_toArray, List.getElem?_cons_zero, List.getElem?_cons_succ]; rfl)
  case hQ332 => exact fun _ _ _ h => h
  case hy332 => exact y_int (w.heap.size + 1) 5 _ (fun V hV => (hV.2.1.cell 5).trans rfl) rfl
  simp only [Act.put, List.setIfInBounds_toArray, List.set_cons_zero, List.set_cons_succ]
  refine wpAnyH_take (i := 3) (oi := ?oi333) (v := .pointer (some ⟨w.heap.size + 1, 0, none⟩)) ?hi333 (by kernel_rfl) (by kernel_rfl) (by kernel_rfl) ?hQ333 ?hy333 (by assumption) ?rest333
  case hi333 => (simp only [List.getElem?_toArray, List.getElem?_cons_zero, List.getElem?_cons_succ]; rfl)
  case hQ333 => exact fun _ _ _ h => h
  case hy333 => exact Or.inl ⟨by rfl, by (intro w hSw; (try dsimp only at hSw); go_simp )⟩
  simp only [Act.put, List.setIfInBounds_toArray, List.set_cons_zero, List.set_cons_succ]
  refine wpAnyH_take (i := 4) (oi := ?oi334) (v := .int .i64 56) ?hi334 (by kernel_rfl) (by kernel_rfl) (by kernel_rfl) ?hQ334 ?hy334 (by assumption) ?rest334
  case hi334 => (simp only [List.getElem?_toArray, List.getElem?_cons_zero, List.getElem?_cons_succ]; rfl)
  case hQ334 => exact fun _ _ _ h => h
  case hy334 => exact y_int (w.heap.size + 1) 0 _ (fun V hV => (hV.2.1.cell 0).trans rfl) rfl
  simp only [Act.put, List.setIfInBounds_toArray, List.set_cons_zero, List.set_cons_succ]
  refine wpAnyH_take (i := 5) (oi := ?oi335) (v := .int .u32 (old : Nat)) ?hi335 (by kernel_rfl) (by kernel_rfl) (by kernel_rfl) ?hQ335 ?hy335 (by assumption) ?rest335
  case hi335 => (simp only [List.getElem?_toArray, List.getElem?_cons_zero, List.getElem?_cons_succ]; rfl)
  case hQ335 => exact fun _ _ _ h => h
  case hy335 => exact Or.inl ⟨by rfl, by (intro w hSw; (try dsimp only at hSw); go_simp )⟩
  simp only [Act.put, List.setIfInBounds_toArray, List.set_cons_zero, List.set_cons_succ]
  refine wpAnyH_take (i := 6) (oi := ?oi336) (v := .int .u32 (s1 : Nat)) ?hi336 (by kernel_rfl) (by kernel_rfl) (by kernel_rfl) ?hQ336 ?hy336 (by assumption) ?rest336
  case hi336 => (simp only [List.getElem?_toArray, List.getElem?_cons_zero, List.getElem?_cons_succ]; rfl)
  case hQ336 => exact fun _ _ _ h => h
  case hy336 => exact Or.inl ⟨by rfl, by (intro w hSw; (try dsimp only at hSw); go_simp <;> omega)⟩
  simp only [Act.put, List.setIfInBounds_toArray, List.set_cons_zero, List.set_cons_succ]
  refine wpAnyH_ready (rs := [0, 7]) (by kernel_rfl) (by simp) ?_
  refine AllReadyH.cons (o := ?oi337) ?hi337 (fun K hK => ?b337) (AllReadyH.cons (o := ?oi338) ?hi338 (fun K hK => ?b338) AllReadyH.nil)
  case hi337 => (simp only [List.getElem?_toArray, List.getElem?_cons_zero]; rfl)
  case hi338 => (simp only [List.getElem?_toArray, List.getElem?_cons_zero, List.getElem?_cons_succ]; rfl)
  case b337 =>
    rw [if_pos (by rfl)]
    (with_reducible refine w_ld_s (w.heap.size + 3) h.c hc2 ?_ ?_)
    · exact rfl
    simp only [Act.put, List.setIfInBounds_toArray, List.set_cons_zero, List.set_cons_succ]
    refine hK.out _ _ ?_ (fun hHeld => ?_)
    · exact hHeld
    clear hK K
    refine wpAnyH_ready (rs := [7]) (by kernel_rfl) (by simp) ?_
    refine AllReadyH.cons (o := ?oi339) ?hi339 (fun K hK => ?_) AllReadyH.nil
    case hi339 => (simp only [List.getElem?_toArray, List.getElem?_cons_zero, List.getElem?_cons_succ]; rfl)
    go_simp
    refine (HM.out _ ?_ _).mono ?_
    · first | rfl | omega
    rintro e V ⟨rfl, rfl⟩
    go_simp
    refine hK.out _ _ ?_ (fun hHeld => ?_)
    · exact hHeld
    clear hK K
    refine wpAnyH_ready (rs := [8]) (by kernel_rfl) (by simp) ?_
    refine AllReadyH.cons (o := ?oi340) ?hi340 (fun K hK => ?_) AllReadyH.nil
    case hi340 => (simp only [List.getElem?_toArray, List.getElem?_cons_zero, List.getElem?_cons_succ]; rfl)
    go_simp
    refine (HW.out _).mono ?_
    rintro e V ⟨rfl, hbc⟩
    replace hr := hHeld.1.bl hbc
    replace hi := hHeld.2.1.bl hbc
    replace hb := below_bl rfl hHeld.2.2.2 hbc
    replace hq := hq.bl hbc
    replace hc2 := hc2.bl hbc
    clear hHeld
    go_simp
    refine hK.out _ _ ?_ (fun hHeld => ?_)
    · exact ⟨hr, hi, Or.inl hc2, hb⟩
    clear hK K
    refine wpAnyH_take (i := 9) (oi := ?oi341) (v := .tuple #[.agg c.cells, .nilIface]) ?hi341 (by kernel_rfl) (by kernel_rfl) (by kernel_rfl) ?hQ341 ?hy341 (by assumption) ?rest341
    case hi341 => (simp only [List.getElem?_toArray, List.getElem?_cons_zero, List.getElem?_cons_succ]; rfl)
    case hQ341 => exact fun _ _ _ h => h
    case hy341 => exact Or.inl ⟨by rfl, by (intro w hSw; (try dsimp only at hSw); go_simp )⟩
    simp only [Act.put, List.setIfInBounds_toArray, List.set_cons_zero, List.set_cons_succ]
    refine wpAnyH_take (i := 10) (oi := ?oi342) (v := .agg c.cells) ?hi342 (by kernel_rfl) (by kernel_rfl) (by kernel_rfl) ?hQ342 ?hy342 (by assumption) ?rest342
    case hi342 => (simp only [List.getElem?_toArray, List.getElem?_cons_zero, List.getElem?_cons_succ]; rfl)
    case hQ342 => exact fun _ _ _ h => h
    case hy342 => exact Or.inl ⟨by rfl, by (intro w hSw; (try dsimp only at hSw); go_simp )⟩
    simp only [Act.put, List.setIfInBounds_toArray, List.set_cons_zero, List.set_cons_succ]
    refine wpAnyH_take (i := 11) (oi := ?oi343) (v := .nilIface) ?hi343 (by kernel_rfl) (by kernel_rfl) (by kernel_rfl) ?hQ343 ?hy343 (by assumption) ?rest343
    case hi343 => (simp only [List.getElem?_toArray, List.getElem?_cons_zero, List.getElem?_cons_succ]; rfl)
    case hQ343 => exact fun _ _ _ h => h
    case hy343 => exact Or.inl ⟨by rfl, by (intro w hSw; (try dsimp only at hSw); go_simp )⟩
    simp only [Act.put, List.setIfInBounds_toArray, List.set_cons_zero, List.set_cons_succ]
    refine wpAnyH_ready (rs := [12]) (by kernel_rfl) (by simp) ?_
    refine AllReadyH.cons (o := ?oi344) ?hi344 (fun K hK => ?_) AllReadyH.nil
    case hi344 => (simp only [List.getElem?_toArray, List.getElem?_cons_zero, List.getElem?_cons_succ]; rfl)
    rw [if_pos (by rfl)]
    (with_reducible refine s_s (w.heap.size + 3) _ c hc2 ?_ ?_ ?_)
    · exact rfl
    · exact rfl
    intro W hnew ho
    replace hr := hr.only ho (by omega)
    replace hi := hi.only ho (by omega)
    replace hq := hq.only ho (by omega)
    replace hb := ho.bel _ _ (by omega) hb
    replace hc2 := hnew
    clear hHeld
    refine hK.out _ _ ?_ (fun hHeld => ?_)
    · exact ⟨hr, hi, Or.inr hc2, hb⟩
    clear hK K
    refine wpAnyH_take (i := 13) (oi := ?oi345) (v := .nilIface) ?hi345 (by kernel_rfl) (by kernel_rfl) (by kernel_rfl) ?hQ345 ?hy345 (by assumption) ?rest345
    case hi345 => (simp only [List.getElem?_toArray, List.getElem?_cons_zero, List.getElem?_cons_succ]; rfl)
    case hQ345 => exact fun _ _ _ h => h
    case hy345 => exact Or.inl ⟨by rfl, by (intro w hSw; (try dsimp only at hSw); go_simp )⟩
    simp only [Act.put, List.setIfInBounds_toArray, List.set_cons_zero, List.set_cons_succ]
    refine wpAnyH_done (by kernel_rfl) ?_ _
    have qa : W.cell? ⟨w.heap.size + 1, 0, none⟩ = some (.int .i64 56) := hi.cell 0
    have qb : W.cell? ⟨w.heap.size + 1, 1, none⟩ = some (.int .i64 (rd : Nat)) := hi.cell 1
    have qc : W.cell? ⟨w.heap.size + 1, 2, none⟩ = some (.int .i64 (s1 : Nat)) := hi.cell 2
    go_wp2_with (first | ((with_reducible refine ld_h w.heap.size _ hr ?_ ?_); exact rfl) | ((with_reducible refine ld_c w.heap.size _ hr ?_ ?_); exact rfl) | ((with_reducible refine ld_s (w.heap.size + 3) _ hc2 ?_ ?_); exact rfl) | ((with_reducible refine ld_op (w.heap.size + 1) _ hi ?_ ?_); exact rfl) | ((with_reducible refine ld_rd (w.heap.size + 1) _ hi ?_ ?_); exact rfl) | ((with_reducible refine ld_rs1 (w.heap.size + 1) _ hi ?_ ?_); exact rfl) | ((with_reducible refine ld_csr (w.heap.size + 1) _ hi ?_ ?_); exact rfl) | ((with_reducible refine ld_x w.heap.size s1 _ h1 hr ?_ ?_); exact rfl) | ((with_reducible refine st_c w.heap.size _ c hr ?_ ?_ ?_); exact rfl; exact rfl; intro W hnew ho; replace hi := hi.only ho (by omega); replace hq := hq.only ho (by omega); replace hc2 := hc2.only ho (by omega); replace hr := hnew; replace hb := ho.bel _ _ (by omega) hb) | (go_at_call 46; refine (HWr.out _).mono ?_; rintro e W ⟨rfl, hbc⟩; replace hr := hr.bl hbc; replace hi := hi.bl hbc; replace hq := hq.bl hbc; replace hc2 := hc2.bl hbc; replace hb := below_bl rfl hb hbc) | (go_at_call 45; refine (HN.out _).mono ?_; rintro e W ⟨rfl, hbc⟩; replace hr := hr.bl hbc; replace hi := hi.bl hbc; replace hq := hq.bl hbc; replace hc2 := hc2.bl hbc; replace hb := below_bl rfl hb hbc) | ((with_reducible refine st_h (w.heap.size + 2) _ (nextH (writeH (withC h c) rd old)) hq ?_ ?_ ?_); exact rfl; exact rfl; intro W hnew ho; replace hr := hr.only ho (by omega); replace hi := hi.only ho (by omega); replace hc2 := hc2.only ho (by omega); replace hq := hnew; replace hb := ho.bel _ _ (by omega) hb))
    refine bodyPost_ret (results_cell_row Tryd.results26 _ _ (w.heap.size + 2) _ _ _ _ rfl hq Tryd.underlying31 rfl size_hart) rfl ?_
    exact ⟨rfl, hb⟩
  case b338 =>
    go_simp
    refine (HM.out _ ?_ _).mono ?_
    · first | rfl | omega
    rintro e V ⟨rfl, rfl⟩
    go_simp
    refine hK.out _ _ ?_ (fun hHeld => ?_)
    · exact hHeld
    clear hK K
    refine wpAnyH_ready (rs := [0]) (by kernel_rfl) (by simp) ?_
    refine AllReadyH.cons (o := ?oi346) ?hi346 (fun K hK => ?_) AllReadyH.nil
    case hi346 => (simp only [List.getElem?_toArray, List.getElem?_cons_zero]; rfl)
    rw [if_pos (by rfl)]
    (with_reducible refine w_ld_s (w.heap.size + 3) h.c hc2 ?_ ?_)
    · exact rfl
    simp only [Act.put, List.setIfInBounds_toArray, List.set_cons_zero, List.set_cons_succ]
    refine hK.out _ _ ?_ (fun hHeld => ?_)
    · exact hHeld
    clear hK K
    refine wpAnyH_ready (rs := [8]) (by kernel_rfl) (by simp) ?_
    refine AllReadyH.cons (o := ?oi347) ?hi347 (fun K hK => ?_) AllReadyH.nil
    case hi347 => (simp only [List.getElem?_toArray, List.getElem?_cons_zero, List.getElem?_cons_succ]; rfl)
    go_simp
    refine (HW.out _).mono ?_
    rintro e V ⟨rfl, hbc⟩
    replace hr := hHeld.1.bl hbc
    replace hi := hHeld.2.1.bl hbc
    replace hb := below_bl rfl hHeld.2.2.2 hbc
    replace hq := hq.bl hbc
    replace hc2 := hc2.bl hbc
    clear hHeld
    go_simp
    refine hK.out _ _ ?_ (fun hHeld => ?_)
    · exact ⟨hr, hi, Or.inl hc2, hb⟩
    clear hK K
    refine wpAnyH_take (i := 9) (oi := ?oi348) (v := .tuple #[.agg c.cells, .nilIface]) ?hi348 (by kernel_rfl) (by kernel_rfl) (by kernel_rfl) ?hQ348 ?hy348 (by assumption) ?rest348
    case hi348 => (simp only [List.getElem?_toArray, List.getElem?_cons_zero, List.getElem?_cons_succ]; rfl)
    case hQ348 => exact fun _ _ _ h => h
    case hy348 => exact Or.inl ⟨by rfl, by (intro w hSw; (try dsimp only at hSw); go_simp )⟩
    simp only [Act.put, List.setIfInBounds_toArray, List.set_cons_zero, List.set_cons_succ]
    refine wpAnyH_take (i := 10) (oi := ?oi349) (v := .agg c.cells) ?hi349 (by kernel_rfl) (by kernel_rfl) (by kernel_rfl) ?hQ349 ?hy349 (by assumption) ?rest349
    case hi349 => (simp only [List.getElem?_toArray, List.getElem?_cons_zero, List.getElem?_cons_succ]; rfl)
    case hQ349 => exact fun _ _ _ h => h
    case hy349 => exact Or.inl ⟨by rfl, by (intro w hSw; (try dsimp only at hSw); go_simp )⟩
    simp only [Act.put, List.setIfInBounds_toArray, List.set_cons_zero, List.set_cons_succ]
    refine wpAnyH_take (i := 11) (oi := ?oi350) (v := .nilIface) ?hi350 (by kernel_rfl) (by kernel_rfl) (by kernel_rfl) ?hQ350 ?hy350 (by assumption) ?rest350
    case hi350 => (simp only [List.getElem?_toArray, List.getElem?_cons_zero, List.getElem?_cons_succ]; rfl)
    case hQ350 => exact fun _ _ _ h => h
    case hy350 => exact Or.inl ⟨by rfl, by (intro w hSw; (try dsimp only at hSw); go_simp )⟩
    simp only [Act.put, List.setIfInBounds_toArray, List.set_cons_zero, List.set_cons_succ]
    refine wpAnyH_ready (rs := [12]) (by kernel_rfl) (by simp) ?_
    refine AllReadyH.cons (o := ?oi351) ?hi351 (fun K hK => ?_) AllReadyH.nil
    case hi351 => (simp only [List.getElem?_toArray, List.getElem?_cons_zero, List.getElem?_cons_succ]; rfl)
    rw [if_pos (by rfl)]
    (with_reducible refine s_s (w.heap.size + 3) _ c hc2 ?_ ?_ ?_)
    · exact rfl
    · exact rfl
    intro W hnew ho
    replace hr := hr.only ho (by omega)
    replace hi := hi.only ho (by omega)
    replace hq := hq.only ho (by omega)
    replace hb := ho.bel _ _ (by omega) hb
    replace hc2 := hnew
    clear hHeld
    refine hK.out _ _ ?_ (fun hHeld => ?_)
    · exact ⟨hr, hi, Or.inr hc2, hb⟩
    clear hK K
    refine wpAnyH_take (i := 13) (oi := ?oi352) (v := .nilIface) ?hi352 (by kernel_rfl) (by kernel_rfl) (by kernel_rfl) ?hQ352 ?hy352 (by assumption) ?rest352
    case hi352 => (simp only [List.getElem?_toArray, List.getElem?_cons_zero, List.getElem?_cons_succ]; rfl)
    case hQ352 => exact fun _ _ _ h => h
    case hy352 => exact Or.inl ⟨by rfl, by (intro w hSw; (try dsimp only at hSw); go_simp )⟩
    simp only [Act.put, List.setIfInBounds_toArray, List.set_cons_zero, List.set_cons_succ]
    refine wpAnyH_done (by kernel_rfl) ?_ _
    have qa : W.cell? ⟨w.heap.size + 1, 0, none⟩ = some (.int .i64 56) := hi.cell 0
    have qb : W.cell? ⟨w.heap.size + 1, 1, none⟩ = some (.int .i64 (rd : Nat)) := hi.cell 1
    have qc : W.cell? ⟨w.heap.size + 1, 2, none⟩ = some (.int .i64 (s1 : Nat)) := hi.cell 2
    go_wp2_with (first | ((with_reducible refine ld_h w.heap.size _ hr ?_ ?_); exact rfl) | ((with_reducible refine ld_c w.heap.size _ hr ?_ ?_); exact rfl) | ((with_reducible refine ld_s (w.heap.size + 3) _ hc2 ?_ ?_); exact rfl) | ((with_reducible refine ld_op (w.heap.size + 1) _ hi ?_ ?_); exact rfl) | ((with_reducible refine ld_rd (w.heap.size + 1) _ hi ?_ ?_); exact rfl) | ((with_reducible refine ld_rs1 (w.heap.size + 1) _ hi ?_ ?_); exact rfl) | ((with_reducible refine ld_csr (w.heap.size + 1) _ hi ?_ ?_); exact rfl) | ((with_reducible refine ld_x w.heap.size s1 _ h1 hr ?_ ?_); exact rfl) | ((with_reducible refine st_c w.heap.size _ c hr ?_ ?_ ?_); exact rfl; exact rfl; intro W hnew ho; replace hi := hi.only ho (by omega); replace hq := hq.only ho (by omega); replace hc2 := hc2.only ho (by omega); replace hr := hnew; replace hb := ho.bel _ _ (by omega) hb) | (go_at_call 46; refine (HWr.out _).mono ?_; rintro e W ⟨rfl, hbc⟩; replace hr := hr.bl hbc; replace hi := hi.bl hbc; replace hq := hq.bl hbc; replace hc2 := hc2.bl hbc; replace hb := below_bl rfl hb hbc) | (go_at_call 45; refine (HN.out _).mono ?_; rintro e W ⟨rfl, hbc⟩; replace hr := hr.bl hbc; replace hi := hi.bl hbc; replace hq := hq.bl hbc; replace hc2 := hc2.bl hbc; replace hb := below_bl rfl hb hbc) | ((with_reducible refine st_h (w.heap.size + 2) _ (nextH (writeH (withC h c) rd old)) hq ?_ ?_ ?_); exact rfl; exact rfl; intro W hnew ho; replace hr := hr.only ho (by omega); replace hi := hi.only ho (by omega); replace hc2 := hc2.only ho (by omega); replace hq := hnew; replace hb := ho.bel _ _ (by omega) hb))
    refine bodyPost_ret (results_cell_row Tryd.results26 _ _ (w.heap.size + 2) _ _ _ _ rfl hq Tryd.underlying31 rfl size_hart) rfl ?_
    exact ⟨rfl, hb⟩

set_option maxHeartbeats 2000000 in
theorem control_56rD (h : H) (ok : h.Ok) (rd s1 s2 : Nat) (im cs : Int) (hrd : rd < 32) (h1 : s1 < 32) (v l : Nat) (hl : l < 4294967296) (h0 : s1 = 0) (old : Nat) (hold : old < 4294967296) (hR : readN h.c cs l = some old) (w : World) :
    Calls Tryd.prog 26 #[.agg h.cells, .agg (I6.cells ⟨56, (rd : Nat), (s1 : Nat), (s2 : Nat), im, cs⟩), .int .u32 v, .int .u32 l] w fun e w' => e = .returned (.agg (nextH (writeH h rd old)).cells) ∧ Below w.heap.size w w' := by
  have b1 : (0 : Int) ≤ s1 := by omega
  have b2 : (s1 : Int) < 32 := by omega
  have t2 : ((s1 : Int) != 0) = false := by simp; omega
  clear h0
  have HR := hide (fun w => cs_read_bl h.c ok.c cs l hl w)
  rw [hR] at HR
  simp only [readV] at HR
  clear hR
  have ok' : H.Ok h := ok
  have HWr := hide (fun w => write_any h rd hrd old w)
  have HN := hide (fun w => next_any _ (writeH_ok ok' rd hold) w)
  go_enter Tryd.func26, Tryd.ntmps26
  go_wp2_with (first | ((with_reducible refine bx_h w.heap.size h ?_ ?_ ?_); exact rfl; exact rfl; intro W hr hb hz) | ((with_reducible refine bx_i (w.heap.size + 1) ⟨56, (rd : Nat), (s1 : Nat), (s2 : Nat), im, cs⟩ ?_ ?_ ?_); exact hz.out; exact rfl; intro W hi hb' hz'; replace hr := hr.bl (hz.out ▸ hb'); replace hb := hb.trans (hb'.mono (by omega)); replace hz := hz') | ((with_reducible refine al_h (w.heap.size + 2) ?_ ?_); exact hz.out; intro W hq hb' hz'; replace hr := hr.bl (hz.out ▸ hb'); replace hi := hi.bl (hz.out ▸ hb'); replace hb := hb.trans (hb'.mono (by omega)); replace hz := hz'; have qa : W.cell? ⟨w.heap.size + 1, 0, none⟩ = some (.int .i64 56) := hi.cell 0; have qb : W.cell? ⟨w.heap.size + 1, 1, none⟩ = some (.int .i64 (rd : Nat)) := hi.cell 1; have qc : W.cell? ⟨w.heap.size + 1, 2, none⟩ = some (.int .i64 (s1 : Nat)) := hi.cell 2) | ((with_reducible refine al_c (w.heap.size + 3) ?_ ?_); exact hz.out; intro W hc2 hb' hz'; replace hr := hr.bl (hz.out ▸ hb'); replace hi := hi.bl (hz.out ▸ hb'); replace hq := hq.bl (hz.out ▸ hb'); replace hb := hb.trans (hb'.mono (by omega)); replace hz := hz'; have qa : W.cell? ⟨w.heap.size + 1, 0, none⟩ = some (.int .i64 56) := hi.cell 0; have qb : W.cell? ⟨w.heap.size + 1, 1, none⟩ = some (.int .i64 (rd : Nat)) := hi.cell 1; have qc : W.cell? ⟨w.heap.size + 1, 2, none⟩ = some (.int .i64 (s1 : Nat)) := hi.cell 2) | ((with_reducible refine st_s (w.heap.size + 3) _ h.c hc2 ?_ ?_ ?_); exact rfl; exact rfl; intro W hnew ho; replace hr := hr.only ho (by omega); replace hi := hi.only ho (by omega); replace hq := hq.only ho (by omega); replace hc2 := hnew; replace hb := ho.bel _ _ (by omega) hb; have qa : W.cell? ⟨w.heap.size + 1, 0, none⟩ = some (.int .i64 56) := hi.cell 0; have qb : W.cell? ⟨w.heap.size + 1, 1, none⟩ = some (.int .i64 (rd : Nat)) := hi.cell 1; have qc : W.cell? ⟨w.heap.size + 1, 2, none⟩ = some (.int .i64 (s1 : Nat)) := hi.cell 2) | (go_at_call 52; refine (HR.out _).mono ?_; rintro e W ⟨rfl, hbc⟩; replace hr := hr.bl hbc; replace hi := hi.bl hbc; replace hq := hq.bl hbc; replace hc2 := hc2.bl hbc; replace hb := below_bl rfl hb hbc; have qa : W.cell? ⟨w.heap.size + 1, 0, none⟩ = some (.int .i64 56) := hi.cell 0; have qb : W.cell? ⟨w.heap.size + 1, 1, none⟩ = some (.int .i64 (rd : Nat)) := hi.cell 1; have qc : W.cell? ⟨w.heap.size + 1, 2, none⟩ = some (.int .i64 (s1 : Nat)) := hi.cell 2) | ((with_reducible refine ld_h w.heap.size _ hr ?_ ?_); exact rfl) | ((with_reducible refine ld_c w.heap.size _ hr ?_ ?_); exact rfl) | ((with_reducible refine ld_s (w.heap.size + 3) _ hc2 ?_ ?_); exact rfl) | ((with_reducible refine ld_op (w.heap.size + 1) _ hi ?_ ?_); exact rfl) | ((with_reducible refine ld_rd (w.heap.size + 1) _ hi ?_ ?_); exact rfl) | ((with_reducible refine ld_rs1 (w.heap.size + 1) _ hi ?_ ?_); exact rfl) | ((with_reducible refine ld_csr (w.heap.size + 1) _ hi ?_ ?_); exact rfl) | ((with_reducible refine ld_x w.heap.size s1 _ h1 hr ?_ ?_); exact rfl) | ((with_reducible refine st_c w.heap.size _ h.c hr ?_ ?_ ?_); exact rfl; exact rfl; intro W hnew ho; replace hi := hi.only ho (by omega); replace hq := hq.only ho (by omega); replace hc2 := hc2.only ho (by omega); replace hr := hnew; replace hb := ho.bel _ _ (by omega) hb) | (go_at_call 46; refine (HWr.out _).mono ?_; rintro e W ⟨rfl, hbc⟩; replace hr := hr.bl hbc; replace hi := hi.bl hbc; replace hq := hq.bl hbc; replace hc2 := hc2.bl hbc; replace hb := below_bl rfl hb hbc) | (go_at_call 45; refine (HN.out _).mono ?_; rintro e W ⟨rfl, hbc⟩; replace hr := hr.bl hbc; replace hi := hi.bl hbc; replace hq := hq.bl hbc; replace hc2 := hc2.bl hbc; replace hb := below_bl rfl hb hbc) | ((with_reducible refine st_h (w.heap.size + 2) _ (nextH (writeH h rd old)) hq ?_ ?_ ?_); exact rfl; exact rfl; intro W hnew ho; replace hr := hr.only ho (by omega); replace hi := hi.only ho (by omega); replace hc2 := hc2.only ho (by omega); replace hq := hnew; replace hb := ho.bel _ _ (by omega) hb))
  refine bodyPost_ret (results_cell_row Tryd.results26 _ _ (w.heap.size + 2) _ _ _ _ rfl hq Tryd.underlying31 rfl size_hart) rfl ?_
  exact ⟨rfl, hb⟩

end Go.Proofs.YtelakpogochifaaDoor
