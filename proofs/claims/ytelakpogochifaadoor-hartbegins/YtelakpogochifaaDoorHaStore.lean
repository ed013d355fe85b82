/-
  What hart.store answers.
-/
import Derived.Test.YtelakpogochifaaDoorHaLoad
import Derived.Deep.QuietTactic
import Derived.BigQuiet
import Derived.Deep.RegionHeld3
namespace Go.Proofs.YtelakpogochifaaDoor
open Go.RowKit
set_option linter.unusedVariables false

set_option maxHeartbeats 1000000 in
theorem store_15 (h : H) (ok : h.Ok) (rd s1 s2 : Nat) (im cs : Int) (h1 : s1 < 32) (h2 : s2 < 32) (A : Nat) (hA : (h.x s1 + immN im) % 4294967296 = A)  (w : World) (hV : WidAt w) :
    Calls Tryd.prog 25 #[.agg h.cells, .agg (I6.cells ⟨15, (rd : Nat), (s1 : Nat), (s2 : Nat), im, cs⟩)] w fun e w' => e = .returned (.tuple #[.agg (h).cells, .agg (A6.cells ⟨2, A, 1, false, 0, h.x s2⟩)]) ∧ Below w.heap.size w w' := by
  have b1 : (0 : Int) ≤ s1 := by omega
  have b2 : (s1 : Int) < 32 := by omega
  have b3 : (0 : Int) ≤ s2 := by omega
  have b4 : (s2 : Int) < 32 := by omega
  have hA1 : (((h.x s1 : Nat) : Int) + im) % 4294967296 = (A : Int) := by have := immN_cast im; omega
  have hA2 : (((h.x s1 : Nat) : Int) + im % 4294967296) % 4294967296 = (A : Int) := by have := immN_cast im; omega
  have HV := hide hV
  clear hA hV
  have t0 : ((A : Int) % 1 != 0) = false := by simp
  go_enter Tryd.func25, Tryd.ntmps25
  go_wp2_with (first | ((with_reducible refine bx_h w.heap.size h ?_ ?_ ?_); exact rfl; exact rfl; intro W hr hb hz) | ((with_reducible refine bx_i (w.heap.size + 1) ⟨15, (rd : Nat), (s1 : Nat), (s2 : Nat), im, cs⟩ ?_ ?_ ?_); exact hz.out; exact rfl; intro W hi hb' hz'; replace hr := hr.bl (hz.out ▸ hb'); replace hb := hb.trans (hb'.mono (by omega)); replace hz := hz') | ((with_reducible refine al_h (w.heap.size + 2) ?_ ?_); exact hz.out; intro W hq hb' hz'; replace hr := hr.bl (hz.out ▸ hb'); replace hi := hi.bl (hz.out ▸ hb'); replace hb := hb.trans (hb'.mono (by omega)); replace hz := hz') | ((with_reducible refine al_a (w.heap.size + 3) ?_ ?_); exact hz.out; intro W ha hb' hz'; replace hr := hr.bl (hz.out ▸ hb'); replace hi := hi.bl (hz.out ▸ hb'); replace hq := hq.bl (hz.out ▸ hb'); replace hb := hb.trans (hb'.mono (by omega)); replace hz := hz'))
  refine wp_region_held_drew (S := (fun V => RowAt V w.heap.size h.cells 31 ∧ RowAt V (w.heap.size + 1) (I6.cells ⟨15, (rd : Nat), (s1 : Nat), (s2 : Nat), im, cs⟩) 61 ∧ Below w.heap.size w V)) (by kernel_rfl) ?_ (fun hHeld => ?_)
  · exact ⟨hr.dr, hi.dr, hb.drew⟩
  replace hq := hq.dr
  replace ha := ha.dr
  refine wpAnyH_take (i := 0) (oi := ?oi184) (v := .pointer (some ⟨w.heap.size + 1, 2, none⟩)) ?hi184 (by kernel_rfl) (by kernel_rfl) (by kernel_rfl) ?hQ184 ?hy184 (by assumption) ?rest184
  case hi184 => (simp only [List.getElem?_toArray, List.getElem?_cons_zero]; rfl)
  case hQ184 => exact fun _ _ _ h => h
  case hy184 => exact Or.inl ⟨by rfl, by (intro w hSw; (try dsimp only at hSw); go_simp )⟩
  simp only [Act.put, List.setIfInBounds_toArray, List.set_cons_zero, List.set_cons_succ]
  refine wpAnyH_take (i := 1) (oi := ?oi185) (v := .int .i64 (s1 : Nat)) ?hi185 (by kernel_rfl) (by kernel_rfl) (by kernel_rfl) ?hQ185 ?hy185 (by assumption) ?rest185
  case hi185 => (simp only [List.getElem?_toArray, List.getElem?_cons_zero, List.getElem?_cons_succ]; rfl)
  case hQ185 => exact fun _ _ _ h => h
  case hy185 => exact y_int (w.heap.size + 1) 2 _ (fun V hV => (hV.2.1.cell 2).trans rfl) rfl
  simp only [Act.put, List.setIfInBounds_toArray, List.set_cons_zero, List.set_cons_succ]
  refine wpAnyH_take (i := 2) (oi := ?oi186) (v := .pointer (some ⟨w.heap.size, 1, none⟩)) ?hi186 (by kernel_rfl) (by kernel_rfl) (by kernel_rfl) ?hQ186 ?hy186 (by assumption) ?rest186
  case hi186 => (simp only [List.getElem?_toArray, List.getElem?_cons_zero, List.getElem?_cons_succ]; rfl)
  case hQ186 => exact fun _ _ _ h => h
  case hy186 => exact Or.inl ⟨by rfl, by (intro w hSw; (try dsimp only at hSw); go_simp )⟩
  simp only [Act.put, List.setIfInBounds_toArray, List.set_cons_zero, List.set_cons_succ]
  refine wpAnyH_take (i := 3) (oi := ?oi187) (v := .pointer (some ⟨w.heap.size, 1 + s1, none⟩)) ?hi187 (by kernel_rfl) (by kernel_rfl) (by kernel_rfl) ?hQ187 ?hy187 (by assumption) ?rest187
  case hi187 => (simp only [List.getElem?_toArray, List.getElem?_cons_zero, List.getElem?_cons_succ]; rfl)
  case hQ187 => exact fun _ _ _ h => h
  case hy187 => exact Or.inl ⟨by rfl, by (intro w hSw; (try dsimp only at hSw); go_simp )⟩
  simp only [Act.put, List.setIfInBounds_toArray, List.set_cons_zero, List.set_cons_succ]
  refine wpAnyH_take (i := 4) (oi := ?oi188) (v := .int .u32 (h.x s1 : Nat)) ?hi188 (by kernel_rfl) (by kernel_rfl) (by kernel_rfl) ?hQ188 ?hy188 (by assumption) ?rest188
  case hi188 => (simp only [List.getElem?_toArray, List.getElem?_cons_zero, List.getElem?_cons_succ]; rfl)
  case hQ188 => exact fun _ _ _ h => h
  case hy188 => exact y_word w.heap.size (1 + s1) _ (fun V hV => (hV.1.cell _).trans (h.cell_x s1 h1)) rfl
  simp only [Act.put, List.setIfInBounds_toArray, List.set_cons_zero, List.set_cons_succ]
  refine wpAnyH_take (i := 5) (oi := ?oi189) (v := .pointer (some ⟨w.heap.size + 1, 4, none⟩)) ?hi189 (by kernel_rfl) (by kernel_rfl) (by kernel_rfl) ?hQ189 ?hy189 (by assumption) ?rest189
  case hi189 => (simp only [List.getElem?_toArray, List.getElem?_cons_zero, List.getElem?_cons_succ]; rfl)
  case hQ189 => exact fun _ _ _ h => h
  case hy189 => exact Or.inl ⟨by rfl, by (intro w hSw; (try dsimp only at hSw); go_simp )⟩
  simp only [Act.put, List.setIfInBounds_toArray, List.set_cons_zero, List.set_cons_succ]
  refine wpAnyH_take (i := 6) (oi := ?oi190) (v := .int .i64 im) ?hi190 (by kernel_rfl) (by kernel_rfl) (by kernel_rfl) ?hQ190 ?hy190 (by assumption) ?rest190
  case hi190 => (simp only [List.getElem?_toArray, List.getElem?_cons_zero, List.getElem?_cons_succ]; rfl)
  case hQ190 => exact fun _ _ _ h => h
  case hy190 => exact y_int (w.heap.size + 1) 4 _ (fun V hV => (hV.2.1.cell 4).trans rfl) rfl
  simp only [Act.put, List.setIfInBounds_toArray, List.set_cons_zero, List.set_cons_succ]
  refine wpAnyH_take (i := 7) (oi := ?oi191) (v := .int .u32 (im % 4294967296)) ?hi191 (by kernel_rfl) (by kernel_rfl) (by kernel_rfl) ?hQ191 ?hy191 (by assumption) ?rest191
  case hi191 => (simp only [List.getElem?_toArray, List.getElem?_cons_zero, List.getElem?_cons_succ]; rfl)
  case hQ191 => exact fun _ _ _ h => h
  case hy191 => exact Or.inl ⟨by rfl, by (intro w hSw; (try dsimp only at hSw); go_simp <;> first | rfl | exact IntKind.wrap_u32 _)⟩
  simp only [Act.put, List.setIfInBounds_toArray, List.set_cons_zero, List.set_cons_succ]
  refine wpAnyH_take (i := 8) (oi := ?oi192) (v := .int .u32 (A : Nat)) ?hi192 (by kernel_rfl) (by kernel_rfl) (by kernel_rfl) ?hQ192 ?hy192 (by assumption) ?rest192
  case hi192 => (simp only [List.getElem?_toArray, List.getElem?_cons_zero, List.getElem?_cons_succ]; rfl)
  case hQ192 => exact fun _ _ _ h => h
  case hy192 => exact Or.inl ⟨by rfl, by (intro w hSw; (try dsimp only at hSw); go_simp <;> first | exact hA2 | exact hA1 | (rw [IntKind.wrap_u32]; omega))⟩
  simp only [Act.put, List.setIfInBounds_toArray, List.set_cons_zero, List.set_cons_succ]
  refine wpAnyH_take (i := 9) (oi := ?oi193) (v := .pointer (some ⟨w.heap.size + 1, 0, none⟩)) ?hi193 (by kernel_rfl) (by kernel_rfl) (by kernel_rfl) ?hQ193 ?hy193 (by assumption) ?rest193
  case hi193 => (simp only [List.getElem?_toArray, List.getElem?_cons_zero, List.getElem?_cons_succ]; rfl)
  case hQ193 => exact fun _ _ _ h => h
  case hy193 => exact Or.inl ⟨by rfl, by (intro w hSw; (try dsimp only at hSw); go_simp )⟩
  simp only [Act.put, List.setIfInBounds_toArray, List.set_cons_zero, List.set_cons_succ]
  refine wpAnyH_take (i := 10) (oi := ?oi194) (v := .int .i64 15) ?hi194 (by kernel_rfl) (by kernel_rfl) (by kernel_rfl) ?hQ194 ?hy194 (by assumption) ?rest194
  case hi194 => (simp only [List.getElem?_toArray, List.getElem?_cons_zero, List.getElem?_cons_succ]; rfl)
  case hQ194 => exact fun _ _ _ h => h
  case hy194 => exact y_int (w.heap.size + 1) 0 _ (fun V hV => (hV.2.1.cell 0).trans rfl) rfl
  simp only [Act.put, List.setIfInBounds_toArray, List.set_cons_zero, List.set_cons_succ]
  refine wpAnyH_take (i := 11) (oi := ?oi195) (v := .int .i64 0) ?hi195 (by kernel_rfl) (by kernel_rfl) (by kernel_rfl) ?hQ195 ?hy195 (by assumption) ?rest195
  case hi195 => (simp only [List.getElem?_toArray, List.getElem?_cons_zero, List.getElem?_cons_succ]; rfl)
  case hQ195 => exact fun _ _ _ h => h
  case hy195 => exact Or.inl ⟨by rfl, by (intro w hSw; (try dsimp only at hSw); go_simp <;> first | rfl | decide)⟩
  simp only [Act.put, List.setIfInBounds_toArray, List.set_cons_zero, List.set_cons_succ]
  refine wpAnyH_take (i := 12) (oi := ?oi196) (v := .pointer (some ⟨2, 0, none⟩)) ?hi196 (by kernel_rfl) (by kernel_rfl) (by kernel_rfl) ?hQ196 ?hy196 (by assumption) ?rest196
  case hi196 => (simp only [List.getElem?_toArray, List.getElem?_cons_zero, List.getElem?_cons_succ]; rfl)
  case hQ196 => exact fun _ _ _ h => h
  case hy196 => exact Or.inl ⟨by rfl, by (intro w hSw; (try dsimp only at hSw); go_simp )⟩
  simp only [Act.put, List.setIfInBounds_toArray, List.set_cons_zero, List.set_cons_succ]
  refine wpAnyH_take (i := 13) (oi := ?oi197) (v := .int .i64 1) ?hi197 (by kernel_rfl) (by kernel_rfl) (by kernel_rfl) ?hQ197 ?hy197 (by assumption) ?rest197
  case hi197 => (simp only [List.getElem?_toArray, List.getElem?_cons_zero, List.getElem?_cons_succ]; rfl)
  case hQ197 => exact fun _ _ _ h => h
  case hy197 => exact y_int 2 0 _ (fun V hV => (HV.out.below hV.2.2) 0 (by decide)) rfl
  simp only [Act.put, List.setIfInBounds_toArray, List.set_cons_zero, List.set_cons_succ]
  refine wpAnyH_take (i := 14) (oi := ?oi198) (v := .int .u32 (A : Nat)) ?hi198 (by kernel_rfl) (by kernel_rfl) (by kernel_rfl) ?hQ198 ?hy198 (by assumption) ?rest198
  case hi198 => (simp only [List.getElem?_toArray, List.getElem?_cons_zero, List.getElem?_cons_succ]; rfl)
  case hQ198 => exact fun _ _ _ h => h
  case hy198 => exact Or.inl ⟨by rfl, by (intro w hSw; (try dsimp only at hSw); go_simp )⟩
  simp only [Act.put, List.setIfInBounds_toArray, List.set_cons_zero, List.set_cons_succ]
  refine wpAnyH_take (i := 15) (oi := ?oi199) (v := .int .i64 1) ?hi199 (by kernel_rfl) (by kernel_rfl) (by kernel_rfl) ?hQ199 ?hy199 (by assumption) ?rest199
  case hi199 => (simp only [List.getElem?_toArray, List.getElem?_cons_zero, List.getElem?_cons_succ]; rfl)
  case hQ199 => exact fun _ _ _ h => h
  case hy199 => exact Or.inl ⟨by rfl, by (intro w hSw; (try dsimp only at hSw); go_simp )⟩
  simp only [Act.put, List.setIfInBounds_toArray, List.set_cons_zero, List.set_cons_succ]
  refine wpAnyH_done (by kernel_rfl) ?_ _
  clear hHeld
  replace hr := hr.dr
  replace hi := hi.dr
  replace hb := hb.drew
  go_wp2_with (first | ((with_reducible refine ld_h w.heap.size _ hr ?_ ?_); exact rfl))
  refine wp_region_held_drew (S := (fun V => RowAt V w.heap.size h.cells 31 ∧ RowAt V (w.heap.size + 1) (I6.cells ⟨15, (rd : Nat), (s1 : Nat), (s2 : Nat), im, cs⟩) 61 ∧ Below w.heap.size w V)) (by kernel_rfl) ?_ (fun hHeld => ?_)
  · exact ⟨hr.dr, hi.dr, hb.drew⟩
  replace hq := hq.dr
  replace ha := ha.dr
  refine wpAnyH_take (i := 0) (oi := ?oi200) (v := .agg h.cells) ?hi200 (by kernel_rfl) (by kernel_rfl) (by kernel_rfl) ?hQ200 ?hy200 (by assumption) ?rest200
  case hi200 => (simp only [List.getElem?_toArray, List.getElem?_cons_zero]; rfl)
  case hQ200 => exact fun _ _ _ h => h
  case hy200 => exact y_h w.heap.size h (fun V hV => hV.1) rfl
  simp only [Act.put, List.setIfInBounds_toArray, List.set_cons_zero, List.set_cons_succ]
  refine wpAnyH_take (i := 1) (oi := ?oi201) (v := .int .u32 (A : Nat)) ?hi201 (by kernel_rfl) (by kernel_rfl) (by kernel_rfl) ?hQ201 ?hy201 (by assumption) ?rest201
  case hi201 => (simp only [List.getElem?_toArray, List.getElem?_cons_zero, List.getElem?_cons_succ]; rfl)
  case hQ201 => exact fun _ _ _ h => h
  case hy201 => exact Or.inl ⟨by rfl, by (intro w hSw; (try dsimp only at hSw); go_simp )⟩
  simp only [Act.put, List.setIfInBounds_toArray, List.set_cons_zero, List.set_cons_succ]
  refine wpAnyH_take (i := 2) (oi := ?oi202) (v := .int .i64 1) ?hi202 (by kernel_rfl) (by kernel_rfl) (by kernel_rfl) ?hQ202 ?hy202 (by assumption) ?rest202
  case hi202 => (simp only [List.getElem?_toArray, List.getElem?_cons_zero, List.getElem?_cons_succ]; rfl)
  case hQ202 => exact fun _ _ _ h => h
  case hy202 => exact Or.inl ⟨by rfl, by (intro w hSw; (try dsimp only at hSw); go_simp )⟩
  simp only [Act.put, List.setIfInBounds_toArray, List.set_cons_zero, List.set_cons_succ]
  refine wpAnyH_take (i := 3) (oi := ?oi203) (v := .pointer (some ⟨w.heap.size + 1, 3, none⟩)) ?hi203 (by kernel_rfl) (by kernel_rfl) (by kernel_rfl) ?hQ203 ?hy203 (by assumption) ?rest203
  case hi203 => (simp only [List.getElem?_toArray, List.getElem?_cons_zero, List.getElem?_cons_succ]; rfl)
  case hQ203 => exact fun _ _ _ h => h
  case hy203 => exact Or.inl ⟨by rfl, by (intro w hSw; (try dsimp only at hSw); go_simp )⟩
  simp only [Act.put, List.setIfInBounds_toArray, List.set_cons_zero, List.set_cons_succ]
  refine wpAnyH_take (i := 4) (oi := ?oi204) (v := .int .i64 (s2 : Nat)) ?hi204 (by kernel_rfl) (by kernel_rfl) (by kernel_rfl) ?hQ204 ?hy204 (by assumption) ?rest204
  case hi204 => (simp only [List.getElem?_toArray, List.getElem?_cons_zero, List.getElem?_cons_succ]; rfl)
  case hQ204 => exact fun _ _ _ h => h
  case hy204 => exact y_int (w.heap.size + 1) 3 _ (fun V hV => (hV.2.1.cell 3).trans rfl) rfl
  simp only [Act.put, List.setIfInBounds_toArray, List.set_cons_zero, List.set_cons_succ]
  refine wpAnyH_take (i := 5) (oi := ?oi205) (v := .pointer (some ⟨w.heap.size, 1, none⟩)) ?hi205 (by kernel_rfl) (by kernel_rfl) (by kernel_rfl) ?hQ205 ?hy205 (by assumption) ?rest205
  case hi205 => (simp only [List.getElem?_toArray, List.getElem?_cons_zero, List.getElem?_cons_succ]; rfl)
  case hQ205 => exact fun _ _ _ h => h
  case hy205 => exact Or.inl ⟨by rfl, by (intro w hSw; (try dsimp only at hSw); go_simp )⟩
  simp only [Act.put, List.setIfInBounds_toArray, List.set_cons_zero, List.set_cons_succ]
  refine wpAnyH_take (i := 6) (oi := ?oi206) (v := .pointer (some ⟨w.heap.size, 1 + s2, none⟩)) ?hi206 (by kernel_rfl) (by kernel_rfl) (by kernel_rfl) ?hQ206 ?hy206 (by assumption) ?rest206
  case hi206 => (simp only [List.getElem?_toArray, List.getElem?_cons_zero, List.getElem?_cons_succ]; rfl)
  case hQ206 => exact fun _ _ _ h => h
  case hy206 => exact Or.inl ⟨by rfl, by (intro w hSw; (try dsimp only at hSw); go_simp )⟩
  simp only [Act.put, List.setIfInBounds_toArray, List.set_cons_zero, List.set_cons_succ]
  refine wpAnyH_take (i := 7) (oi := ?oi207) (v := .int .u32 (h.x s2 : Nat)) ?hi207 (by kernel_rfl) (by kernel_rfl) (by kernel_rfl) ?hQ207 ?hy207 (by assumption) ?rest207
  case hi207 => (simp only [List.getElem?_toArray, List.getElem?_cons_zero, List.getElem?_cons_succ]; rfl)
  case hQ207 => exact fun _ _ _ h => h
  case hy207 => exact y_word w.heap.size (1 + s2) _ (fun V hV => (hV.1.cell _).trans (h.cell_x s2 h2)) rfl
  simp only [Act.put, List.setIfInBounds_toArray, List.set_cons_zero, List.set_cons_succ]
  refine wpAnyH_take (i := 8) (oi := ?oi208) (v := .agg (A6.cells ⟨2, A, 1, false, 0, h.x s2⟩)) ?hi208 (by kernel_rfl) (by kernel_rfl) (by kernel_rfl) ?hQ208 ?hy208 (by assumption) ?rest208
  case hi208 => (simp only [List.getElem?_toArray, List.getElem?_cons_zero, List.getElem?_cons_succ]; rfl)
  case hQ208 => exact fun _ _ _ h => h
  case hy208 => exact Or.inl ⟨by rfl, by (intro w hSw; (try dsimp only at hSw); go_simp <;> rfl)⟩
  simp only [Act.put, List.setIfInBounds_toArray, List.set_cons_zero, List.set_cons_succ]
  refine wpAnyH_ready (rs := [9]) (by kernel_rfl) (by simp) ?_
  refine AllReadyH.cons (o := ?oi209) ?hi209 (fun K hK => ?_) AllReadyH.nil
  case hi209 => (simp only [List.getElem?_toArray, List.getElem?_cons_zero, List.getElem?_cons_succ]; rfl)
  rw [if_pos (by rfl)]
  (with_reducible refine s_h (w.heap.size + 2) _ h hq ?_ ?_ ?_)
  · exact rfl
  · exact rfl
  intro V2 hq2 ho
  replace hr := hHeld.1.only ho (by omega)
  replace hi := hHeld.2.1.only ho (by omega)
  replace ha := ha.only ho (by omega)
  replace hb := ho.bel _ _ (by omega) hHeld.2.2
  clear hHeld
  refine hK.out _ _ ?_ (fun hHeld => ?_)
  · exact ⟨hr, hi, hb⟩
  clear hK K
  refine wpAnyH_ready (rs := [10]) (by kernel_rfl) (by simp) ?_
  refine AllReadyH.cons (o := ?oi210) ?hi210 (fun K hK => ?_) AllReadyH.nil
  case hi210 => (simp only [List.getElem?_toArray, List.getElem?_cons_zero, List.getElem?_cons_succ]; rfl)
  rw [if_pos (by rfl)]
  (with_reducible refine s_a (w.heap.size + 3) _ ⟨2, A, 1, false, 0, h.x s2⟩ ha ?_ ?_ ?_)
  · exact rfl
  · exact rfl
  intro V3 ha2 ho
  replace hr := hr.only ho (by omega)
  replace hi := hi.only ho (by omega)
  replace hq2 := hq2.only ho (by omega)
  replace hb := ho.bel _ _ (by omega) hb
  refine hK.out _ _ ?_ (fun hHeld => ?_)
  · exact ⟨hr, hi, hb⟩
  clear hK K
  refine wpAnyH_done (by kernel_rfl) ?_ _
  go_wp2
  refine bodyPost_ret (results_two_rows Tryd.results25 _ _ (w.heap.size + 2) (w.heap.size + 3) _ _ _ _ _ _ rfl hq2 Tryd.underlying31 rfl size_hart rfl ha2 Tryd.underlying33 rfl size_acc) rfl ?_
  exact ⟨rfl, hb⟩

set_option maxHeartbeats 1000000 in
theorem store_16 (h : H) (ok : h.Ok) (rd s1 s2 : Nat) (im cs : Int) (h1 : s1 < 32) (h2 : s2 < 32) (A : Nat) (hA : (h.x s1 + immN im) % 4294967296 = A) (ht :  A % 2 = 0) (w : World) (hV : WidAt w) :
    Calls Tryd.prog 25 #[.agg h.cells, .agg (I6.cells ⟨16, (rd : Nat), (s1 : Nat), (s2 : Nat), im, cs⟩)] w fun e w' => e = .returned (.tuple #[.agg (h).cells, .agg (A6.cells ⟨2, A, 2, false, 0, h.x s2⟩)]) ∧ Below w.heap.size w w' := by
  have b1 : (0 : Int) ≤ s1 := by omega
  have b2 : (s1 : Int) < 32 := by omega
  have b3 : (0 : Int) ≤ s2 := by omega
  have b4 : (s2 : Int) < 32 := by omega
  have hA1 : (((h.x s1 : Nat) : Int) + im) % 4294967296 = (A : Int) := by have := immN_cast im; omega
  have hA2 : (((h.x s1 : Nat) : Int) + im % 4294967296) % 4294967296 = (A : Int) := by have := immN_cast im; omega
  have HV := hide hV
  clear hA hV
  have t0 : ((A : Int) % 2 != 0) = false := by simp; omega
  clear ht
  go_enter Tryd.func25, Tryd.ntmps25
  go_wp2_with (first | ((with_reducible refine bx_h w.heap.size h ?_ ?_ ?_); exact rfl; exact rfl; intro W hr hb hz) | ((with_reducible refine bx_i (w.heap.size + 1) ⟨16, (rd : Nat), (s1 : Nat), (s2 : Nat), im, cs⟩ ?_ ?_ ?_); exact hz.out; exact rfl; intro W hi hb' hz'; replace hr := hr.bl (hz.out ▸ hb'); replace hb := hb.trans (hb'.mono (by omega)); replace hz := hz') | ((with_reducible refine al_h (w.heap.size + 2) ?_ ?_); exact hz.out; intro W hq hb' hz'; replace hr := hr.bl (hz.out ▸ hb'); replace hi := hi.bl (hz.out ▸ hb'); replace hb := hb.trans (hb'.mono (by omega)); replace hz := hz') | ((with_reducible refine al_a (w.heap.size + 3) ?_ ?_); exact hz.out; intro W ha hb' hz'; replace hr := hr.bl (hz.out ▸ hb'); replace hi := hi.bl (hz.out ▸ hb'); replace hq := hq.bl (hz.out ▸ hb'); replace hb := hb.trans (hb'.mono (by omega)); replace hz := hz'))
  refine wp_region_held_drew (S := (fun V => RowAt V w.heap.size h.cells 31 ∧ RowAt V (w.heap.size + 1) (I6.cells ⟨16, (rd : Nat), (s1 : Nat), (s2 : Nat), im, cs⟩) 61 ∧ Below w.heap.size w V)) (by kernel_rfl) ?_ (fun hHeld => ?_)
  · exact ⟨hr.dr, hi.dr, hb.drew⟩
  replace hq := hq.dr
  replace ha := ha.dr
  refine wpAnyH_take (i := 0) (oi := ?oi211) (v := .pointer (some ⟨w.heap.size + 1, 2, none⟩)) ?hi211 (by kernel_rfl) (by kernel_rfl) (by kernel_rfl) ?hQ211 ?hy211 (by assumption) ?rest211
  case hi211 => (simp only [List.getElem?_toArray, List.getElem?_cons_zero]; rfl)
  case hQ211 => exact fun _ _ _ h => h
  case hy211 => exact Or.inl ⟨by rfl, by (intro w hSw; (try dsimp only at hSw); go_simp )⟩
  simp only [Act.put, List.setIfInBounds_toArray, List.set_cons_zero, List.set_cons_succ]
  refine wpAnyH_take (i := 1) (oi := ?oi212) (v := .int .i64 (s1 : Nat)) ?hi212 (by kernel_rfl) (by kernel_rfl) (by kernel_rfl) ?hQ212 ?hy212 (by assumption) ?rest212
  case hi212 => (simp only [List.getElem?_toArray, List.getElem?_cons_zero, List.getElem?_cons_succ]; rfl)
  case hQ212 => exact fun _ _ _ h => h
  case hy212 => exact y_int (w.heap.size + 1) 2 _ (fun V hV => (hV.2.1.cell 2).trans rfl) rfl
  simp only [Act.put, List.setIfInBounds_toArray, List.set_cons_zero, List.set_cons_succ]
  refine wpAnyH_take (i := 2) (oi := ?oi213) (v := .pointer (some ⟨w.heap.size, 1, none⟩)) ?hi213 (by kernel_rfl) (by kernel_rfl) (by kernel_rfl) ?hQ213 ?hy213 (by assumption) ?rest213
  case hi213 => (simp only [List.getElem?_toArray, List.getElem?_cons_zero, List.getElem?_cons_succ]; rfl)
  case hQ213 => exact fun _ _ _ h => h
  case hy213 => exact Or.inl ⟨by rfl, by (intro w hSw; (try dsimp only at hSw); go_simp )⟩
  simp only [Act.put, List.setIfInBounds_toArray, List.set_cons_zero, List.set_cons_succ]
  refine wpAnyH_take (i := 3) (oi := ?oi214) (v := .pointer (some ⟨w.heap.size, 1 + s1, none⟩)) ?hi214 (by kernel_rfl) (by kernel_rfl) (by kernel_rfl) ?hQ214 ?hy214 (by assumption) ?rest214
  case hi214 => (simp only [List.getElem?_toArray, List.getElem?_cons_zero, List.getElem?_cons_succ]; rfl)
  case hQ214 => exact fun _ _ _ h => h
  case hy214 => exact Or.inl ⟨by rfl, by (intro w hSw; (try dsimp only at hSw); go_simp )⟩
  simp only [Act.put, List.setIfInBounds_toArray, List.set_cons_zero, List.set_cons_succ]
  refine wpAnyH_take (i := 4) (oi := ?oi215) (v := .int .u32 (h.x s1 : Nat)) ?hi215 (by kernel_rfl) (by kernel_rfl) (by kernel_rfl) ?hQ215 ?hy215 (by assumption) ?rest215
  case hi215 => (simp only [List.getElem?_toArray, List.getElem?_cons_zero, List.getElem?_cons_succ]; rfl)
  case hQ215 => exact fun _ _ _ h => h
  case hy215 => exact y_word w.heap.size (1 + s1) _ (fun V hV => (hV.1.cell _).trans (h.cell_x s1 h1)) rfl
  simp only [Act.put, List.setIfInBounds_toArray, List.set_cons_zero, List.set_cons_succ]
  refine wpAnyH_take (i := 5) (oi := ?oi216) (v := .pointer (some ⟨w.heap.size + 1, 4, none⟩)) ?hi216 (by kernel_rfl) (by kernel_rfl) (by kernel_rfl) ?hQ216 ?hy216 (by assumption) ?rest216
  case hi216 => (simp only [List.getElem?_toArray, List.getElem?_cons_zero, List.getElem?_cons_succ]; rfl)
  case hQ216 => exact fun _ _ _ h => h
  case hy216 => exact Or.inl ⟨by rfl, by (intro w hSw; (try dsimp only at hSw); go_simp )⟩
  simp only [Act.put, List.setIfInBounds_toArray, List.set_cons_zero, List.set_cons_succ]
  refine wpAnyH_take (i := 6) (oi := ?oi217) (v := .int .i64 im) ?hi217 (by kernel_rfl) (by kernel_rfl) (by kernel_rfl) ?hQ217 ?hy217 (by assumption) ?rest217
  case hi217 => (simp only [List.getElem?_toArray, List.getElem?_cons_zero, List.getElem?_cons_succ]; rfl)
  case hQ217 => exact fun _ _ _ h => h
  case hy217 => exact y_int (w.heap.size + 1) 4 _ (fun V hV => (hV.2.1.cell 4).trans rfl) rfl
  simp only [Act.put, List.setIfInBounds_toArray, List.set_cons_zero, List.set_cons_succ]
  refine wpAnyH_take (i := 7) (oi := ?oi218) (v := .int .u32 (im % 4294967296)) ?hi218 (by kernel_rfl) (by kernel_rfl) (by kernel_rfl) ?hQ218 ?hy218 (by assumption) ?rest218
  case hi218 => (simp only [List.getElem?_toArray, List.getElem?_cons_zero, List.getElem?_cons_succ]; rfl)
  case hQ218 => exact fun _ _ _ h => h
  case hy218 => exact Or.inl ⟨by rfl, by (intro w hSw; (try dsimp only at hSw); go_simp <;> first | rfl | exact IntKind.wrap_u32 _)⟩
  simp only [Act.put, List.setIfInBounds_toArray, List.set_cons_zero, List.set_cons_succ]
  refine wpAnyH_take (i := 8) (oi := ?oi219) (v := .int .u32 (A : Nat)) ?hi219 (by kernel_rfl) (by kernel_rfl) (by kernel_rfl) ?hQ219 ?hy219 (by assumption) ?rest219
  case hi219 => (simp only [List.getElem?_toArray, List.getElem?_cons_zero, List.getElem?_cons_succ]; rfl)
  case hQ219 => exact fun _ _ _ h => h
  case hy219 => exact Or.inl ⟨by rfl, by (intro w hSw; (try dsimp only at hSw); go_simp <;> first | exact hA2 | exact hA1 | (rw [IntKind.wrap_u32]; omega))⟩
  simp only [Act.put, List.setIfInBounds_toArray, List.set_cons_zero, List.set_cons_succ]
  refine wpAnyH_take (i := 9) (oi := ?oi220) (v := .pointer (some ⟨w.heap.size + 1, 0, none⟩)) ?hi220 (by kernel_rfl) (by kernel_rfl) (by kernel_rfl) ?hQ220 ?hy220 (by assumption) ?rest220
  case hi220 => (simp only [List.getElem?_toArray, List.getElem?_cons_zero, List.getElem?_cons_succ]; rfl)
  case hQ220 => exact fun _ _ _ h => h
  case hy220 => exact Or.inl ⟨by rfl, by (intro w hSw; (try dsimp only at hSw); go_simp )⟩
  simp only [Act.put, List.setIfInBounds_toArray, List.set_cons_zero, List.set_cons_succ]
  refine wpAnyH_take (i := 10) (oi := ?oi221) (v := .int .i64 16) ?hi221 (by kernel_rfl) (by kernel_rfl) (by kernel_rfl) ?hQ221 ?hy221 (by assumption) ?rest221
  case hi221 => (simp only [List.getElem?_toArray, List.getElem?_cons_zero, List.getElem?_cons_succ]; rfl)
  case hQ221 => exact fun _ _ _ h => h
  case hy221 => exact y_int (w.heap.size + 1) 0 _ (fun V hV => (hV.2.1.cell 0).trans rfl) rfl
  simp only [Act.put, List.setIfInBounds_toArray, List.set_cons_zero, List.set_cons_succ]
  refine wpAnyH_take (i := 11) (oi := ?oi222) (v := .int .i64 1) ?hi222 (by kernel_rfl) (by kernel_rfl) (by kernel_rfl) ?hQ222 ?hy222 (by assumption) ?rest222
  case hi222 => (simp only [List.getElem?_toArray, List.getElem?_cons_zero, List.getElem?_cons_succ]; rfl)
  case hQ222 => exact fun _ _ _ h => h
  case hy222 => exact Or.inl ⟨by rfl, by (intro w hSw; (try dsimp only at hSw); go_simp <;> first | rfl | decide)⟩
  simp only [Act.put, List.setIfInBounds_toArray, List.set_cons_zero, List.set_cons_succ]
  refine wpAnyH_take (i := 12) (oi := ?oi223) (v := .pointer (some ⟨2, 1, none⟩)) ?hi223 (by kernel_rfl) (by kernel_rfl) (by kernel_rfl) ?hQ223 ?hy223 (by assumption) ?rest223
  case hi223 => (simp only [List.getElem?_toArray, List.getElem?_cons_zero, List.getElem?_cons_succ]; rfl)
  case hQ223 => exact fun _ _ _ h => h
  case hy223 => exact Or.inl ⟨by rfl, by (intro w hSw; (try dsimp only at hSw); go_simp )⟩
  simp only [Act.put, List.setIfInBounds_toArray, List.set_cons_zero, List.set_cons_succ]
  refine wpAnyH_take (i := 13) (oi := ?oi224) (v := .int .i64 2) ?hi224 (by kernel_rfl) (by kernel_rfl) (by kernel_rfl) ?hQ224 ?hy224 (by assumption) ?rest224
  case hi224 => (simp only [List.getElem?_toArray, List.getElem?_cons_zero, List.getElem?_cons_succ]; rfl)
  case hQ224 => exact fun _ _ _ h => h
  case hy224 => exact y_int 2 1 _ (fun V hV => (HV.out.below hV.2.2) 1 (by decide)) rfl
  simp only [Act.put, List.setIfInBounds_toArray, List.set_cons_zero, List.set_cons_succ]
  refine wpAnyH_take (i := 14) (oi := ?oi225) (v := .int .u32 (A : Nat)) ?hi225 (by kernel_rfl) (by kernel_rfl) (by kernel_rfl) ?hQ225 ?hy225 (by assumption) ?rest225
  case hi225 => (simp only [List.getElem?_toArray, List.getElem?_cons_zero, List.getElem?_cons_succ]; rfl)
  case hQ225 => exact fun _ _ _ h => h
  case hy225 => exact Or.inl ⟨by rfl, by (intro w hSw; (try dsimp only at hSw); go_simp )⟩
  simp only [Act.put, List.setIfInBounds_toArray, List.set_cons_zero, List.set_cons_succ]
  refine wpAnyH_take (i := 15) (oi := ?oi226) (v := .int .i64 2) ?hi226 (by kernel_rfl) (by kernel_rfl) (by kernel_rfl) ?hQ226 ?hy226 (by assumption) ?rest226
  case hi226 => (simp only [List.getElem?_toArray, List.getElem?_cons_zero, List.getElem?_cons_succ]; rfl)
  case hQ226 => exact fun _ _ _ h => h
  case hy226 => exact Or.inl ⟨by rfl, by (intro w hSw; (try dsimp only at hSw); go_simp )⟩
  simp only [Act.put, List.setIfInBounds_toArray, List.set_cons_zero, List.set_cons_succ]
  refine wpAnyH_done (by kernel_rfl) ?_ _
  clear hHeld
  replace hr := hr.dr
  replace hi := hi.dr
  replace hb := hb.drew
  go_wp2_with (first | ((with_reducible refine ld_h w.heap.size _ hr ?_ ?_); exact rfl))
  refine wp_region_held_drew (S := (fun V => RowAt V w.heap.size h.cells 31 ∧ RowAt V (w.heap.size + 1) (I6.cells ⟨16, (rd : Nat), (s1 : Nat), (s2 : Nat), im, cs⟩) 61 ∧ Below w.heap.size w V)) (by kernel_rfl) ?_ (fun hHeld => ?_)
  · exact ⟨hr.dr, hi.dr, hb.drew⟩
  replace hq := hq.dr
  replace ha := ha.dr
  refine wpAnyH_take (i := 0) (oi := ?oi227) (v := .agg h.cells) ?hi227 (by kernel_rfl) (by kernel_rfl) (by kernel_rfl) ?hQ227 ?hy227 (by assumption) ?rest227
  case hi227 => (simp only [List.getElem?_toArray, List.getElem?_cons_zero]; rfl)
  case hQ227 => exact fun _ _ _ h => h
  case hy227 => exact y_h w.heap.size h (fun V hV => hV.1) rfl
  simp only [Act.put, List.setIfInBounds_toArray, List.set_cons_zero, List.set_cons_succ]
  refine wpAnyH_take (i := 1) (oi := ?oi228) (v := .int .u32 (A : Nat)) ?hi228 (by kernel_rfl) (by kernel_rfl) (by kernel_rfl) ?hQ228 ?hy228 (by assumption) ?rest228
  case hi228 => (simp only [List.getElem?_toArray, List.getElem?_cons_zero, List.getElem?_cons_succ]; rfl)
  case hQ228 => exact fun _ _ _ h => h
  case hy228 => exact Or.inl ⟨by rfl, by (intro w hSw; (try dsimp only at hSw); go_simp )⟩
  simp only [Act.put, List.setIfInBounds_toArray, List.set_cons_zero, List.set_cons_succ]
  refine wpAnyH_take (i := 2) (oi := ?oi229) (v := .int .i64 2) ?hi229 (by kernel_rfl) (by kernel_rfl) (by kernel_rfl) ?hQ229 ?hy229 (by assumption) ?rest229
  case hi229 => (simp only [List.getElem?_toArray, List.getElem?_cons_zero, List.getElem?_cons_succ]; rfl)
  case hQ229 => exact fun _ _ _ h => h
  case hy229 => exact Or.inl ⟨by rfl, by (intro w hSw; (try dsimp only at hSw); go_simp )⟩
  simp only [Act.put, List.setIfInBounds_toArray, List.set_cons_zero, List.set_cons_succ]
  refine wpAnyH_take (i := 3) (oi := ?oi230) (v := .pointer (some ⟨w.heap.size + 1, 3, none⟩)) ?hi230 (by kernel_rfl) (by kernel_rfl) (by kernel_rfl) ?hQ230 ?hy230 (by assumption) ?rest230
  case hi230 => (simp only [List.getElem?_toArray, List.getElem?_cons_zero, List.getElem?_cons_succ]; rfl)
  case hQ230 => exact fun _ _ _ h => h
  case hy230 => exact Or.inl ⟨by rfl, by (intro w hSw; (try dsimp only at hSw); go_simp )⟩
  simp only [Act.put, List.setIfInBounds_toArray, List.set_cons_zero, List.set_cons_succ]
  refine wpAnyH_take (i := 4) (oi := ?oi231) (v := .int .i64 (s2 : Nat)) ?hi231 (by kernel_rfl) (by kernel_rfl) (by kernel_rfl) ?hQ231 ?hy231 (by assumption) ?rest231
  case hi231 => (simp only [List.getElem?_toArray, List.getElem?_cons_zero, List.getElem?_cons_succ]; rfl)
  case hQ231 => exact fun _ _ _ h => h
  case hy231 => exact y_int (w.heap.size + 1) 3 _ (fun V hV => (hV.2.1.cell 3).trans rfl) rfl
  simp only [Act.put, List.setIfInBounds_toArray, List.set_cons_zero, List.set_cons_succ]
  refine wpAnyH_take (i := 5) (oi := ?oi232) (v := .pointer (some ⟨w.heap.size, 1, none⟩)) ?hi232 (by kernel_rfl) (by kernel_rfl) (by kernel_rfl) ?hQ232 ?hy232 (by assumption) ?rest232
  case hi232 => (simp only [List.getElem?_toArray, List.getElem?_cons_zero, List.getElem?_cons_succ]; rfl)
  case hQ232 => exact fun _ _ _ h => h
  case hy232 => exact Or.inl ⟨by rfl, by (intro w hSw; (try dsimp only at hSw); go_simp )⟩
  simp only [Act.put, List.setIfInBounds_toArray, List.set_cons_zero, List.set_cons_succ]
  refine wpAnyH_take (i := 6) (oi := ?oi233) (v := .pointer (some ⟨w.heap.size, 1 + s2, none⟩)) ?hi233 (by kernel_rfl) (by kernel_rfl) (by kernel_rfl) ?hQ233 ?hy233 (by assumption) ?rest233
  case hi233 => (simp only [List.getElem?_toArray, List.getElem?_cons_zero, List.getElem?_cons_succ]; rfl)
  case hQ233 => exact fun _ _ _ h => h
  case hy233 => exact Or.inl ⟨by rfl, by (intro w hSw; (try dsimp only at hSw); go_simp )⟩
  simp only [Act.put, List.setIfInBounds_toArray, List.set_cons_zero, List.set_cons_succ]
  refine wpAnyH_take (i := 7) (oi := ?oi234) (v := .int .u32 (h.x s2 : Nat)) ?hi234 (by kernel_rfl) (by kernel_rfl) (by kernel_rfl) ?hQ234 ?hy234 (by assumption) ?rest234
  case hi234 => (simp only [List.getElem?_toArray, List.getElem?_cons_zero, List.getElem?_cons_succ]; rfl)
  case hQ234 => exact fun _ _ _ h => h
  case hy234 => exact y_word w.heap.size (1 + s2) _ (fun V hV => (hV.1.cell _).trans (h.cell_x s2 h2)) rfl
  simp only [Act.put, List.setIfInBounds_toArray, List.set_cons_zero, List.set_cons_succ]
  refine wpAnyH_take (i := 8) (oi := ?oi235) (v := .agg (A6.cells ⟨2, A, 2, false, 0, h.x s2⟩)) ?hi235 (by kernel_rfl) (by kernel_rfl) (by kernel_rfl) ?hQ235 ?hy235 (by assumption) ?rest235
  case hi235 => (simp only [List.getElem?_toArray, List.getElem?_cons_zero, List.getElem?_cons_succ]; rfl)
  case hQ235 => exact fun _ _ _ h => h
  case hy235 => exact Or.inl ⟨by rfl, by (intro w hSw; (try dsimp only at hSw); go_simp <;> rfl)⟩
  simp only [Act.put, List.setIfInBounds_toArray, List.set_cons_zero, List.set_cons_succ]
  refine wpAnyH_ready (rs := [9]) (by kernel_rfl) (by simp) ?_
  refine AllReadyH.cons (o := ?oi236) ?hi236 (fun K hK => ?_) AllReadyH.nil
  case hi236 => (simp only [List.getElem?_toArray, List.getElem?_cons_zero, List.getElem?_cons_succ]; rfl)
  rw [if_pos (by rfl)]
  (with_reducible refine s_h (w.heap.size + 2) _ h hq ?_ ?_ ?_)
  · exact rfl
  · exact rfl
  intro V2 hq2 ho
  replace hr := hHeld.1.only ho (by omega)
  replace hi := hHeld.2.1.only ho (by omega)
  replace ha := ha.only ho (by omega)
  replace hb := ho.bel _ _ (by omega) hHeld.2.2
  clear hHeld
  refine hK.out _ _ ?_ (fun hHeld => ?_)
  · exact ⟨hr, hi, hb⟩
  clear hK K
  refine wpAnyH_ready (rs := [10]) (by kernel_rfl) (by simp) ?_
  refine AllReadyH.cons (o := ?oi237) ?hi237 (fun K hK => ?_) AllReadyH.nil
  case hi237 => (simp only [List.getElem?_toArray, List.getElem?_cons_zero, List.getElem?_cons_succ]; rfl)
  rw [if_pos (by rfl)]
  (with_reducible refine s_a (w.heap.size + 3) _ ⟨2, A, 2, false, 0, h.x s2⟩ ha ?_ ?_ ?_)
  · exact rfl
  · exact rfl
  intro V3 ha2 ho
  replace hr := hr.only ho (by omega)
  replace hi := hi.only ho (by omega)
  replace hq2 := hq2.only ho (by omega)
  replace hb := ho.bel _ _ (by omega) hb
  refine hK.out _ _ ?_ (fun hHeld => ?_)
  · exact ⟨hr, hi, hb⟩
  clear hK K
  refine wpAnyH_done (by kernel_rfl) ?_ _
  go_wp2
  refine bodyPost_ret (results_two_rows Tryd.results25 _ _ (w.heap.size + 2) (w.heap.size + 3) _ _ _ _ _ _ rfl hq2 Tryd.underlying31 rfl size_hart rfl ha2 Tryd.underlying33 rfl size_acc) rfl ?_
  exact ⟨rfl, hb⟩

set_option maxHeartbeats 1000000 in
theorem store_16no (h : H) (ok : h.Ok) (rd s1 s2 : Nat) (im cs : Int) (h1 : s1 < 32) (h2 : s2 < 32) (A : Nat) (hA : (h.x s1 + immN im) % 4294967296 = A) (ht : ¬ A % 2 = 0) (w : World) (hV : WidAt w) :
    Calls Tryd.prog 25 #[.agg h.cells, .agg (I6.cells ⟨16, (rd : Nat), (s1 : Nat), (s2 : Nat), im, cs⟩)] w fun e w' => e = .returned (.tuple #[.agg (trapH h 6 A).cells, .agg (A6.cells noA)]) ∧ Below w.heap.size w w' := by
  have b1 : (0 : Int) ≤ s1 := by omega
  have b2 : (s1 : Int) < 32 := by omega
  have b3 : (0 : Int) ≤ s2 := by omega
  have b4 : (s2 : Int) < 32 := by omega
  have hA1 : (((h.x s1 : Nat) : Int) + im) % 4294967296 = (A : Int) := by have := immN_cast im; omega
  have hA2 : (((h.x s1 : Nat) : Int) + im % 4294967296) % 4294967296 = (A : Int) := by have := immN_cast im; omega
  have HV := hide hV
  clear hA hV
  have t0 : ((A : Int) % 2 != 0) = true := by simp; omega
  clear ht
  have HT := hide (fun w => trap_any h ok 6 A (by decide) w)
  rw [show (((6 : Nat) : Int)) = 6 from rfl] at HT
  go_enter Tryd.func25, Tryd.ntmps25
  go_wp2_with (first | ((with_reducible refine bx_h w.heap.size h ?_ ?_ ?_); exact rfl; exact rfl; intro W hr hb hz) | ((with_reducible refine bx_i (w.heap.size + 1) ⟨16, (rd : Nat), (s1 : Nat), (s2 : Nat), im, cs⟩ ?_ ?_ ?_); exact hz.out; exact rfl; intro W hi hb' hz'; replace hr := hr.bl (hz.out ▸ hb'); replace hb := hb.trans (hb'.mono (by omega)); replace hz := hz') | ((with_reducible refine al_h (w.heap.size + 2) ?_ ?_); exact hz.out; intro W hq hb' hz'; replace hr := hr.bl (hz.out ▸ hb'); replace hi := hi.bl (hz.out ▸ hb'); replace hb := hb.trans (hb'.mono (by omega)); replace hz := hz') | ((with_reducible refine al_a (w.heap.size + 3) ?_ ?_); exact hz.out; intro W ha hb' hz'; replace hr := hr.bl (hz.out ▸ hb'); replace hi := hi.bl (hz.out ▸ hb'); replace hq := hq.bl (hz.out ▸ hb'); replace hb := hb.trans (hb'.mono (by omega)); replace hz := hz'))
  refine wp_region_held_drew (S := (fun V => RowAt V w.heap.size h.cells 31 ∧ RowAt V (w.heap.size + 1) (I6.cells ⟨16, (rd : Nat), (s1 : Nat), (s2 : Nat), im, cs⟩) 61 ∧ Below w.heap.size w V)) (by kernel_rfl) ?_ (fun hHeld => ?_)
  · exact ⟨hr.dr, hi.dr, hb.drew⟩
  replace hq := hq.dr
  replace ha := ha.dr
  refine wpAnyH_take (i := 0) (oi := ?oi238) (v := .pointer (some ⟨w.heap.size + 1, 2, none⟩)) ?hi238 (by kernel_rfl) (by kernel_rfl) (by kernel_rfl) ?hQ238 ?hy238 (by assumption) ?rest238
  case hi238 => (simp only [List.getElem?_toArray, List.getElem?_cons_zero]; rfl)
  case hQ238 => exact fun _ _ _ h => h
  case hy238 => exact Or.inl ⟨by rfl, by (intro w hSw; (try dsimp only at hSw); go_simp )⟩
  simp only [Act.put, List.setIfInBounds_toArray, List.set_cons_zero, List.set_cons_succ]
  refine wpAnyH_take (i := 1) (oi := ?oi239) (v := .int .i64 (s1 : Nat)) ?hi239 (by kernel_rfl) (by kernel_rfl) (by kernel_rfl) ?hQ239 ?hy239 (by assumption) ?rest239
  case hi239 => (simp only [List.getElem?_toArray, List.getElem?_cons_zero, List.getElem?_cons_succ]; rfl)
  case hQ239 => exact fun _ _ _ h => h
  case hy239 => exact y_int (w.heap.size + 1) 2 _ (fun V hV => (hV.2.1.cell 2).trans rfl) rfl
  simp only [Act.put, List.setIfInBounds_toArray, List.set_cons_zero, List.set_cons_succ]
  refine wpAnyH_take (i := 2) (oi := ?oi240) (v := .pointer (some ⟨w.heap.size, 1, none⟩)) ?hi240 (by kernel_rfl) (by kernel_rfl) (by kernel_rfl) ?hQ240 ?hy240 (by assumption) ?rest240
  case hi240 => (simp only [List.getElem?_toArray, List.getElem?_cons_zero, List.getElem?_cons_succ]; rfl)
  case hQ240 => exact fun _ _ _ h => h
  case hy240 => exact Or.inl ⟨by rfl, by (intro w hSw; (try dsimp only at hSw); go_simp )⟩
  simp only [Act.put, List.setIfInBounds_toArray, List.set_cons_zero, List.set_cons_succ]
  refine wpAnyH_take (i := 3) (oi := ?oi241) (v := .pointer (some ⟨w.heap.size, 1 + s1, none⟩)) ?hi241 (by kernel_rfl) (by kernel_rfl) (by kernel_rfl) ?hQ241 ?hy241 (by assumption) ?rest241
  case hi241 => (simp only [List.getElem?_toArray, List.getElem?_cons_zero, List.getElem?_cons_succ]; rfl)
  case hQ241 => exact fun _ _ _ h => h
  case hy241 => exact Or.inl ⟨by rfl, by (intro w hSw; (try dsimp only at hSw); go_simp )⟩
  simp only [Act.put, List.setIfInBounds_toArray, List.set_cons_zero, List.set_cons_succ]
  refine wpAnyH_take (i := 4) (oi := ?oi242) (v := .int .u32 (h.x s1 : Nat)) ?hi242 (by kernel_rfl) (by kernel_rfl) (by kernel_rfl) ?hQ242 ?hy242 (by assumption) ?rest242
  case hi242 => (simp only [List.getElem?_toArray, List.getElem?_cons_zero, List.getElem?_cons_succ]; rfl)
  case hQ242 => exact fun _ _ _ h => h
  case hy242 => exact y_word w.heap.size (1 + s1) _ (fun V hV => (hV.1.cell _).trans (h.cell_x s1 h1)) rfl
  simp only [Act.put, List.setIfInBounds_toArray, List.set_cons_zero, List.set_cons_succ]
  refine wpAnyH_take (i := 5) (oi := ?oi243) (v := .pointer (some ⟨w.heap.size + 1, 4, none⟩)) ?hi243 (by kernel_rfl) (by kernel_rfl) (by kernel_rfl) ?hQ243 ?hy243 (by assumption) ?rest243
  case hi243 => (simp only [List.getElem?_toArray, List.getElem?_cons_zero, List.getElem?_cons_succ]; rfl)
  case hQ243 => exact fun _ _ _ h => h
  case hy243 => exact Or.inl ⟨by rfl, by (intro w hSw; (try dsimp only at hSw); go_simp )⟩
  simp only [Act.put, List.setIfInBounds_toArray, List.set_cons_zero, List.set_cons_succ]
  refine wpAnyH_take (i := 6) (oi := ?oi244) (v := .int .i64 im) ?hi244 (by kernel_rfl) (by kernel_rfl) (by kernel_rfl) ?hQ244 ?hy244 (by assumption) ?rest244
  case hi244 => (simp only [List.getElem?_toArray, List.getElem?_cons_zero, List.getElem?_cons_succ]; rfl)
  case hQ244 => exact fun _ _ _ h => h
  case hy244 => exact y_int (w.heap.size + 1) 4 _ (fun V hV => (hV.2.1.cell 4).trans rfl) rfl
  simp only [Act.put, List.setIfInBounds_toArray, List.set_cons_zero, List.set_cons_succ]
  refine wpAnyH_take (i := 7) (oi := ?oi245) (v := .int .u32 (im % 4294967296)) ?hi245 (by kernel_rfl) (by kernel_rfl) (by kernel_rfl) ?hQ245 ?hy245 (by assumption) ?rest245
  case hi245 => (simp only [List.getElem?_toArray, List.getElem?_cons_zero, List.getElem?_cons_succ]; rfl)
  case hQ245 => exact fun _ _ _ h => h
  case hy245 => exact Or.inl ⟨by rfl, by (intro w hSw; (try dsimp only at hSw); go_simp <;> first | rfl | exact IntKind.wrap_u32 _)⟩
  simp only [Act.put, List.setIfInBounds_toArray, List.set_cons_zero, List.set_cons_succ]
  refine wpAnyH_take (i := 8) (oi := ?oi246) (v := .int .u32 (A : Nat)) ?hi246 (by kernel_rfl) (by kernel_rfl) (by kernel_rfl) ?hQ246 ?hy246 (by assumption) ?rest246
  case hi246 => (simp only [List.getElem?_toArray, List.getElem?_cons_zero, List.getElem?_cons_succ]; rfl)
  case hQ246 => exact fun _ _ _ h => h
  case hy246 => exact Or.inl ⟨by rfl, by (intro w hSw; (try dsimp only at hSw); go_simp <;> first | exact hA2 | exact hA1 | (rw [IntKind.wrap_u32]; omega))⟩
  simp only [Act.put, List.setIfInBounds_toArray, List.set_cons_zero, List.set_cons_succ]
  refine wpAnyH_take (i := 9) (oi := ?oi247) (v := .pointer (some ⟨w.heap.size + 1, 0, none⟩)) ?hi247 (by kernel_rfl) (by kernel_rfl) (by kernel_rfl) ?hQ247 ?hy247 (by assumption) ?rest247
  case hi247 => (simp only [List.getElem?_toArray, List.getElem?_cons_zero, List.getElem?_cons_succ]; rfl)
  case hQ247 => exact fun _ _ _ h => h
  case hy247 => exact Or.inl ⟨by rfl, by (intro w hSw; (try dsimp only at hSw); go_simp )⟩
  simp only [Act.put, List.setIfInBounds_toArray, List.set_cons_zero, List.set_cons_succ]
  refine wpAnyH_take (i := 10) (oi := ?oi248) (v := .int .i64 16) ?hi248 (by kernel_rfl) (by kernel_rfl) (by kernel_rfl) ?hQ248 ?hy248 (by assumption) ?rest248
  case hi248 => (simp only [List.getElem?_toArray, List.getElem?_cons_zero, List.getElem?_cons_succ]; rfl)
  case hQ248 => exact fun _ _ _ h => h
  case hy248 => exact y_int (w.heap.size + 1) 0 _ (fun V hV => (hV.2.1.cell 0).trans rfl) rfl
  simp only [Act.put, List.setIfInBounds_toArray, List.set_cons_zero, List.set_cons_succ]
  refine wpAnyH_take (i := 11) (oi := ?oi249) (v := .int .i64 1) ?hi249 (by kernel_rfl) (by kernel_rfl) (by kernel_rfl) ?hQ249 ?hy249 (by assumption) ?rest249
  case hi249 => (simp only [List.getElem?_toArray, List.getElem?_cons_zero, List.getElem?_cons_succ]; rfl)
  case hQ249 => exact fun _ _ _ h => h
  case hy249 => exact Or.inl ⟨by rfl, by (intro w hSw; (try dsimp only at hSw); go_simp <;> first | rfl | decide)⟩
  simp only [Act.put, List.setIfInBounds_toArray, List.set_cons_zero, List.set_cons_succ]
  refine wpAnyH_take (i := 12) (oi := ?oi250) (v := .pointer (some ⟨2, 1, none⟩)) ?hi250 (by kernel_rfl) (by kernel_rfl) (by kernel_rfl) ?hQ250 ?hy250 (by assumption) ?rest250
  case hi250 => (simp only [List.getElem?_toArray, List.getElem?_cons_zero, List.getElem?_cons_succ]; rfl)
  case hQ250 => exact fun _ _ _ h => h
  case hy250 => exact Or.inl ⟨by rfl, by (intro w hSw; (try dsimp only at hSw); go_simp )⟩
  simp only [Act.put, List.setIfInBounds_toArray, List.set_cons_zero, List.set_cons_succ]
  refine wpAnyH_take (i := 13) (oi := ?oi251) (v := .int .i64 2) ?hi251 (by kernel_rfl) (by kernel_rfl) (by kernel_rfl) ?hQ251 ?hy251 (by assumption) ?rest251
  case hi251 => (simp only [List.getElem?_toArray, List.getElem?_cons_zero, List.getElem?_cons_succ]; rfl)
  case hQ251 => exact fun _ _ _ h => h
  case hy251 => exact y_int 2 1 _ (fun V hV => (HV.out.below hV.2.2) 1 (by decide)) rfl
  simp only [Act.put, List.setIfInBounds_toArray, List.set_cons_zero, List.set_cons_succ]
  refine wpAnyH_take (i := 14) (oi := ?oi252) (v := .int .u32 (A : Nat)) ?hi252 (by kernel_rfl) (by kernel_rfl) (by kernel_rfl) ?hQ252 ?hy252 (by assumption) ?rest252
  case hi252 => (simp only [List.getElem?_toArray, List.getElem?_cons_zero, List.getElem?_cons_succ]; rfl)
  case hQ252 => exact fun _ _ _ h => h
  case hy252 => exact Or.inl ⟨by rfl, by (intro w hSw; (try dsimp only at hSw); go_simp )⟩
  simp only [Act.put, List.setIfInBounds_toArray, List.set_cons_zero, List.set_cons_succ]
  refine wpAnyH_take (i := 15) (oi := ?oi253) (v := .int .i64 2) ?hi253 (by kernel_rfl) (by kernel_rfl) (by kernel_rfl) ?hQ253 ?hy253 (by assumption) ?rest253
  case hi253 => (simp only [List.getElem?_toArray, List.getElem?_cons_zero, List.getElem?_cons_succ]; rfl)
  case hQ253 => exact fun _ _ _ h => h
  case hy253 => exact Or.inl ⟨by rfl, by (intro w hSw; (try dsimp only at hSw); go_simp )⟩
  simp only [Act.put, List.setIfInBounds_toArray, List.set_cons_zero, List.set_cons_succ]
  refine wpAnyH_done (by kernel_rfl) ?_ _
  clear hHeld
  replace hr := hr.dr
  replace hi := hi.dr
  replace hb := hb.drew
  go_wp2_with (first | ((with_reducible refine ld_h w.heap.size _ hr ?_ ?_); exact rfl) | (go_at_call 22; refine (HT.out _).mono ?_; rintro e W ⟨rfl, hbc⟩; replace hr := hr.bl hbc; replace hi := hi.bl hbc; replace hq := hq.bl hbc; replace ha := ha.bl hbc; replace hb := below_bl rfl hb hbc) | ((with_reducible refine st_h (w.heap.size + 2) _ (trapH h 6 A) hq ?_ ?_ ?_); exact rfl; exact rfl; intro W hnew ho; replace hr := hr.only ho (by omega); replace hi := hi.only ho (by omega); replace ha := ha.only ho (by omega); replace hq := hnew; replace hb := ho.bel _ _ (by omega) hb) | ((with_reducible refine st_a (w.heap.size + 3) _ noA ha ?_ ?_ ?_); exact rfl; exact rfl; intro W hnew ho; replace hr := hr.only ho (by omega); replace hi := hi.only ho (by omega); replace hq := hq.only ho (by omega); replace ha := hnew; replace hb := ho.bel _ _ (by omega) hb))
  refine bodyPost_ret (results_two_rows Tryd.results25 _ _ (w.heap.size + 2) (w.heap.size + 3) _ _ _ _ _ _ rfl hq Tryd.underlying31 rfl size_hart rfl ha Tryd.underlying33 rfl size_acc) rfl ?_
  exact ⟨rfl, hb⟩

set_option maxHeartbeats 1000000 in
theorem store_17 (h : H) (ok : h.Ok) (rd s1 s2 : Nat) (im cs : Int) (h1 : s1 < 32) (h2 : s2 < 32) (A : Nat) (hA : (h.x s1 + immN im) % 4294967296 = A) (ht :  A % 4 = 0) (w : World) (hV : WidAt w) :
    Calls Tryd.prog 25 #[.agg h.cells, .agg (I6.cells ⟨17, (rd : Nat), (s1 : Nat), (s2 : Nat), im, cs⟩)] w fun e w' => e = .returned (.tuple #[.agg (h).cells, .agg (A6.cells ⟨2, A, 4, false, 0, h.x s2⟩)]) ∧ Below w.heap.size w w' := by
  have b1 : (0 : Int) ≤ s1 := by omega
  have b2 : (s1 : Int) < 32 := by omega
  have b3 : (0 : Int) ≤ s2 := by omega
  have b4 : (s2 : Int) < 32 := by omega
  have hA1 : (((h.x s1 : Nat) : Int) + im) % 4294967296 = (A : Int) := by have := immN_cast im; omega
  have hA2 : (((h.x s1 : Nat) : Int) + im % 4294967296) % 4294967296 = (A : Int) := by have := immN_cast im; omega
  have HV := hide hV
  clear hA hV
  have t0 : ((A : Int) % 4 != 0) = false := by simp; omega
  clear ht
  go_enter Tryd.func25, Tryd.ntmps25
  go_wp2_with (first | ((with_reducible refine bx_h w.heap.size h ?_ ?_ ?_); exact rfl; exact rfl; intro W hr hb hz) | ((with_reducible refine bx_i (w.heap.size + 1) ⟨17, (rd : Nat), (s1 : Nat), (s2 : Nat), im, cs⟩ ?_ ?_ ?_); exact hz.out; exact rfl; intro W hi hb' hz'; replace hr := hr.bl (hz.out ▸ hb'); replace hb := hb.trans (hb'.mono (by omega)); replace hz := hz') | ((with_reducible refine al_h (w.heap.size + 2) ?_ ?_); exact hz.out; intro W hq hb' hz'; replace hr := hr.bl (hz.out ▸ hb'); replace hi := hi.bl (hz.out ▸ hb'); replace hb := hb.trans (hb'.mono (by omega)); replace hz := hz') | ((with_reducible refine al_a (w.heap.size + 3) ?_ ?_); exact hz.out; intro W ha hb' hz'; replace hr := hr.bl (hz.out ▸ hb'); replace hi := hi.bl (hz.out ▸ hb'); replace hq := hq.bl (hz.out ▸ hb'); replace hb := hb.trans (hb'.mono (by omega)); replace hz := hz'))
  refine wp_region_held_drew (S := (fun V => RowAt V w.heap.size h.cells 31 ∧ RowAt V (w.heap.size + 1) (I6.cells ⟨17, (rd : Nat), (s1 : Nat), (s2 : Nat), im, cs⟩) 61 ∧ Below w.heap.size w V)) (by kernel_rfl) ?_ (fun hHeld => ?_)
  · exact ⟨hr.dr, hi.dr, hb.drew⟩
  replace hq := hq.dr
  replace ha := ha.dr
  refine wpAnyH_take (i := 0) (oi := ?oi254) (v := .pointer (some ⟨w.heap.size + 1, 2, none⟩)) ?hi254 (by kernel_rfl) (by kernel_rfl) (by kernel_rfl) ?hQ254 ?hy254 (by assumption) ?rest254
  case hi254 => (simp only [List.getElem?_toArray, List.getElem?_cons_zero]; rfl)
  case hQ254 => exact fun _ _ _ h => h
  case hy254 => exact Or.inl ⟨by rfl, by (intro w hSw; (try dsimp only at hSw); go_simp )⟩
  simp only [Act.put, List.setIfInBounds_toArray, List.set_cons_zero, List.set_cons_succ]
  refine wpAnyH_take (i := 1) (oi := ?oi255) (v := .int .i64 (s1 : Nat)) ?hi255 (by kernel_rfl) (by kernel_rfl) (by kernel_rfl) ?hQ255 ?hy255 (by assumption) ?rest255
  case hi255 => (simp only [List.getElem?_toArray, List.getElem?_cons_zero, List.getElem?_cons_succ]; rfl)
  case hQ255 => exact fun _ _ _ h => h
  case hy255 => exact y_int (w.heap.size + 1) 2 _ (fun V hV => (hV.2.1.cell 2).trans rfl) rfl
  simp only [Act.put, List.setIfInBounds_toArray, List.set_cons_zero, List.set_cons_succ]
  refine wpAnyH_take (i := 2) (oi := ?oi256) (v := .pointer (some ⟨w.heap.size, 1, none⟩)) ?hi256 (by kernel_rfl) (by kernel_rfl) (by kernel_rfl) ?hQ256 ?hy256 (by assumption) ?rest256
  case hi256 => (simp only [List.getElem?_toArray, List.getElem?_cons_zero, List.getElem?_cons_succ]; rfl)
  case hQ256 => exact fun _ _ _ h => h
  case hy256 => exact Or.inl ⟨by rfl, by (intro w hSw; (try dsimp only at hSw); go_simp )⟩
  simp only [Act.put, List.setIfInBounds_toArray, List.set_cons_zero, List.set_cons_succ]
  refine wpAnyH_take (i := 3) (oi := ?oi257) (v := .pointer (some ⟨w.heap.size, 1 + s1, none⟩)) ?hi257 (by kernel_rfl) (by kernel_rfl) (by kernel_rfl) ?hQ257 ?hy257 (by assumption) ?rest257
  case hi257 => (simp only [List.getElem?_toArray, List.getElem?_cons_zero, List.getElem?_cons_succ]; rfl)
  case hQ257 => exact fun _ _ _ h => h
  case hy257 => exact Or.inl ⟨by rfl, by (intro w hSw; (try dsimp only at hSw); go_simp )⟩
  simp only [Act.put, List.setIfInBounds_toArray, List.set_cons_zero, List.set_cons_succ]
  refine wpAnyH_take (i := 4) (oi := ?oi258) (v := .int .u32 (h.x s1 : Nat)) ?hi258 (by kernel_rfl) (by kernel_rfl) (by kernel_rfl) ?hQ258 ?hy258 (by assumption) ?rest258
  case hi258 => (simp only [List.getElem?_toArray, List.getElem?_cons_zero, List.getElem?_cons_succ]; rfl)
  case hQ258 => exact fun _ _ _ h => h
  case hy258 => exact y_word w.heap.size (1 + s1) _ (fun V hV => (hV.1.cell _).trans (h.cell_x s1 h1)) rfl
  simp only [Act.put, List.setIfInBounds_toArray, List.set_cons_zero, List.set_cons_succ]
  refine wpAnyH_take (i := 5) (oi := ?oi259) (v := .pointer (some ⟨w.heap.size + 1, 4, none⟩)) ?hi259 (by kernel_rfl) (by kernel_rfl) (by kernel_rfl) ?hQ259 ?hy259 (by assumption) ?rest259
  case hi259 => (simp only [List.getElem?_toArray, List.getElem?_cons_zero, List.getElem?_cons_succ]; rfl)
  case hQ259 => exact fun _ _ _ h => h
  case hy259 => exact Or.inl ⟨by rfl, by (intro w hSw; (try dsimp only at hSw); go_simp )⟩
  simp only [Act.put, List.setIfInBounds_toArray, List.set_cons_zero, List.set_cons_succ]
  refine wpAnyH_take (i := 6) (oi := ?oi260) (v := .int .i64 im) ?hi260 (by kernel_rfl) (by kernel_rfl) (by kernel_rfl) ?hQ260 ?hy260 (by assumption) ?rest260
  case hi260 => (simp only [List.getElem?_toArray, List.getElem?_cons_zero, List.getElem?_cons_succ]; rfl)
  case hQ260 => exact fun _ _ _ h => h
  case hy260 => exact y_int (w.heap.size + 1) 4 _ (fun V hV => (hV.2.1.cell 4).trans rfl) rfl
  simp only [Act.put, List.setIfInBounds_toArray, List.set_cons_zero, List.set_cons_succ]
  refine wpAnyH_take (i := 7) (oi := ?oi261) (v := .int .u32 (im % 4294967296)) ?hi261 (by kernel_rfl) (by kernel_rfl) (by kernel_rfl) ?hQ261 ?hy261 (by assumption) ?rest261
  case hi261 => (simp only [List.getElem?_toArray, List.getElem?_cons_zero, List.getElem?_cons_succ]; rfl)
  case hQ261 => exact fun _ _ _ h => h
  case hy261 => exact Or.inl ⟨by rfl, by (intro w hSw; (try dsimp only at hSw); go_simp <;> first | rfl | exact IntKind.wrap_u32 _)⟩
  simp only [Act.put, List.setIfInBounds_toArray, List.set_cons_zero, List.set_cons_succ]
  refine wpAnyH_take (i := 8) (oi := ?oi262) (v := .int .u32 (A : Nat)) ?hi262 (by kernel_rfl) (by kernel_rfl) (by kernel_rfl) ?hQ262 ?hy262 (by assumption) ?rest262
  case hi262 => (simp only [List.getElem?_toArray, List.getElem?_cons_zero, List.getElem?_cons_succ]; rfl)
  case hQ262 => exact fun _ _ _ h => h
  case hy262 => exact Or.inl ⟨by rfl, by (intro w hSw; (try dsimp only at hSw); go_simp <;> first | exact hA2 | exact hA1 | (rw [IntKind.wrap_u32]; omega))⟩
  simp only [Act.put, List.setIfInBounds_toArray, List.set_cons_zero, List.set_cons_succ]
  refine wpAnyH_take (i := 9) (oi := ?oi263) (v := .pointer (some ⟨w.heap.size + 1, 0, none⟩)) ?hi263 (by kernel_rfl) (by kernel_rfl) (by kernel_rfl) ?hQ263 ?hy263 (by assumption) ?rest263
  case hi263 => (simp only [List.getElem?_toArray, List.getElem?_cons_zero, List.getElem?_cons_succ]; rfl)
  case hQ263 => exact fun _ _ _ h => h
  case hy263 => exact Or.inl ⟨by rfl, by (intro w hSw; (try dsimp only at hSw); go_simp )⟩
  simp only [Act.put, List.setIfInBounds_toArray, List.set_cons_zero, List.set_cons_succ]
  refine wpAnyH_take (i := 10) (oi := ?oi264) (v := .int .i64 17) ?hi264 (by kernel_rfl) (by kernel_rfl) (by kernel_rfl) ?hQ264 ?hy264 (by assumption) ?rest264
  case hi264 => (simp only [List.getElem?_toArray, List.getElem?_cons_zero, List.getElem?_cons_succ]; rfl)
  case hQ264 => exact fun _ _ _ h => h
  case hy264 => exact y_int (w.heap.size + 1) 0 _ (fun V hV => (hV.2.1.cell 0).trans rfl) rfl
  simp only [Act.put, List.setIfInBounds_toArray, List.set_cons_zero, List.set_cons_succ]
  refine wpAnyH_take (i := 11) (oi := ?oi265) (v := .int .i64 2) ?hi265 (by kernel_rfl) (by kernel_rfl) (by kernel_rfl) ?hQ265 ?hy265 (by assumption) ?rest265
  case hi265 => (simp only [List.getElem?_toArray, List.getElem?_cons_zero, List.getElem?_cons_succ]; rfl)
  case hQ265 => exact fun _ _ _ h => h
  case hy265 => exact Or.inl ⟨by rfl, by (intro w hSw; (try dsimp only at hSw); go_simp <;> first | rfl | decide)⟩
  simp only [Act.put, List.setIfInBounds_toArray, List.set_cons_zero, List.set_cons_succ]
  refine wpAnyH_take (i := 12) (oi := ?oi266) (v := .pointer (some ⟨2, 2, none⟩)) ?hi266 (by kernel_rfl) (by kernel_rfl) (by kernel_rfl) ?hQ266 ?hy266 (by assumption) ?rest266
  case hi266 => (simp only [List.getElem?_toArray, List.getElem?_cons_zero, List.getElem?_cons_succ]; rfl)
  case hQ266 => exact fun _ _ _ h => h
  case hy266 => exact Or.inl ⟨by rfl, by (intro w hSw; (try dsimp only at hSw); go_simp )⟩
  simp only [Act.put, List.setIfInBounds_toArray, List.set_cons_zero, List.set_cons_succ]
  refine wpAnyH_take (i := 13) (oi := ?oi267) (v := .int .i64 4) ?hi267 (by kernel_rfl) (by kernel_rfl) (by kernel_rfl) ?hQ267 ?hy267 (by assumption) ?rest267
  case hi267 => (simp only [List.getElem?_toArray, List.getElem?_cons_zero, List.getElem?_cons_succ]; rfl)
  case hQ267 => exact fun _ _ _ h => h
  case hy267 => exact y_int 2 2 _ (fun V hV => (HV.out.below hV.2.2) 2 (by decide)) rfl
  simp only [Act.put, List.setIfInBounds_toArray, List.set_cons_zero, List.set_cons_succ]
  refine wpAnyH_take (i := 14) (oi := ?oi268) (v := .int .u32 (A : Nat)) ?hi268 (by kernel_rfl) (by kernel_rfl) (by kernel_rfl) ?hQ268 ?hy268 (by assumption) ?rest268
  case hi268 => (simp only [List.getElem?_toArray, List.getElem?_cons_zero, List.getElem?_cons_succ]; rfl)
  case hQ268 => exact fun _ _ _ h => h
  case hy268 => exact Or.inl ⟨by rfl, by (intro w hSw; (try dsimp only at hSw); go_simp )⟩
  simp only [Act.put, List.setIfInBounds_toArray, List.set_cons_zero, List.set_cons_succ]
  refine wpAnyH_take (i := 15) (oi := ?oi269) (v := .int .i64 4) ?hi269 (by kernel_rfl) (by kernel_rfl) (by kernel_rfl) ?hQ269 ?hy269 (by assumption) ?rest269
  case hi269 => (simp only [List.getElem?_toArray, List.getElem?_cons_zero, List.getElem?_cons_succ]; rfl)
  case hQ269 => exact fun _ _ _ h => h
  case hy269 => exact Or.inl ⟨by rfl, by (intro w hSw; (try dsimp only at hSw); go_simp )⟩
  simp only [Act.put, List.setIfInBounds_toArray, List.set_cons_zero, List.set_cons_succ]
  refine wpAnyH_done (by kernel_rfl) ?_ _
  clear hHeld
  replace hr := hr.dr
  replace hi := hi.dr
  replace hb := hb.drew
  go_wp2_with (first | ((with_reducible refine ld_h w.heap.size _ hr ?_ ?_); exact rfl))
  refine wp_region_held_drew (S := (fun V => RowAt V w.heap.size h.cells 31 ∧ RowAt V (w.heap.size + 1) (I6.cells ⟨17, (rd : Nat), (s1 : Nat), (s2 : Nat), im, cs⟩) 61 ∧ Below w.heap.size w V)) (by kernel_rfl) ?_ (fun hHeld => ?_)
  · exact ⟨hr.dr, hi.dr, hb.drew⟩
  replace hq := hq.dr
  replace ha := ha.dr
  refine wpAnyH_take (i := 0) (oi := ?oi270) (v := .agg h.cells) ?hi270 (by kernel_rfl) (by kernel_rfl) (by kernel_rfl) ?hQ270 ?hy270 (by assumption) ?rest270
  case hi270 => (simp only [List.getElem?_toArray, List.getElem?_cons_zero]; rfl)
  case hQ270 => exact fun _ _ _ h => h
  case hy270 => exact y_h w.heap.size h (fun V hV => hV.1) rfl
  simp only [Act.put, List.setIfInBounds_toArray, List.set_cons_zero, List.set_cons_succ]
  refine wpAnyH_take (i := 1) (oi := ?oi271) (v := .int .u32 (A : Nat)) ?hi271 (by kernel_rfl) (by kernel_rfl) (by kernel_rfl) ?hQ271 ?hy271 (by assumption) ?rest271
  case hi271 => (simp only [List.getElem?_toArray, List.getElem?_cons_zero, List.getElem?_cons_succ]; rfl)
  case hQ271 => exact fun _ _ _ h => h
  case hy271 => exact Or.inl ⟨by rfl, by (intro w hSw; (try dsimp only at hSw); go_simp )⟩
  simp only [Act.put, List.setIfInBounds_toArray, List.set_cons_zero, List.set_cons_succ]
  refine wpAnyH_take (i := 2) (oi := ?oi272) (v := .int .i64 4) ?hi272 (by kernel_rfl) (by kernel_rfl) (by kernel_rfl) ?hQ272 ?hy272 (by assumption) ?rest272
  case hi272 => (simp only [List.getElem?_toArray, List.getElem?_cons_zero, List.getElem?_cons_succ]; rfl)
  case hQ272 => exact fun _ _ _ h => h
  case hy272 => exact Or.inl ⟨by rfl, by (intro w hSw; (try dsimp only at hSw); go_simp )⟩
  simp only [Act.put, List.setIfInBounds_toArray, List.set_cons_zero, List.set_cons_succ]
  refine wpAnyH_take (i := 3) (oi := ?oi273) (v := .pointer (some ⟨w.heap.size + 1, 3, none⟩)) ?hi273 (by kernel_rfl) (by kernel_rfl) (by kernel_rfl) ?hQ273 ?hy273 (by assumption) ?rest273
  case hi273 => (simp only [List.getElem?_toArray, List.getElem?_cons_zero, List.getElem?_cons_succ]; rfl)
  case hQ273 => exact fun _ _ _ h => h
  case hy273 => exact Or.inl ⟨by rfl, by (intro w hSw; (try dsimp only at hSw); go_simp )⟩
  simp only [Act.put, List.setIfInBounds_toArray, List.set_cons_zero, List.set_cons_succ]
  refine wpAnyH_take (i := 4) (oi := ?oi274) (v := .int .i64 (s2 : Nat)) ?hi274 (by kernel_rfl) (by kernel_rfl) (by kernel_rfl) ?hQ274 ?hy274 (by assumption) ?rest274
  case hi274 => (simp only [List.getElem?_toArray, List.getElem?_cons_zero, List.getElem?_cons_succ]; rfl)
  case hQ274 => exact fun _ _ _ h => h
  case hy274 => exact y_int (w.heap.size + 1) 3 _ (fun V hV => (hV.2.1.cell 3).trans rfl) rfl
  simp only [Act.put, List.setIfInBounds_toArray, List.set_cons_zero, List.set_cons_succ]
  refine wpAnyH_take (i := 5) (oi := ?oi275) (v := .pointer (some ⟨w.heap.size, 1, none⟩)) ?hi275 (by kernel_rfl) (by kernel_rfl) (by kernel_rfl) ?hQ275 ?hy275 (by assumption) ?rest275
  case hi275 => (simp only [List.getElem?_toArray, List.getElem?_cons_zero, List.getElem?_cons_succ]; rfl)
  case hQ275 => exact fun _ _ _ h => h
  case hy275 => exact Or.inl ⟨by rfl, by (intro w hSw; (try dsimp only at hSw); go_simp )⟩
  simp only [Act.put, List.setIfInBounds_toArray, List.set_cons_zero, List.set_cons_succ]
  refine wpAnyH_take (i := 6) (oi := ?oi276) (v := .pointer (some ⟨w.heap.size, 1 + s2, none⟩)) ?hi276 (by kernel_rfl) (by kernel_rfl) (by kernel_rfl) ?hQ276 ?hy276 (by assumption) ?rest276
  case hi276 => (simp only [List.getElem?_toArray, List.getElem?_cons_zero, List.getElem?_cons_succ]; rfl)
  case hQ276 => exact fun _ _ _ h => h
  case hy276 => exact Or.inl ⟨by rfl, by (intro w hSw; (try dsimp only at hSw); go_simp )⟩
  simp only [Act.put, List.setIfInBounds_toArray, List.set_cons_zero, List.set_cons_succ]
  refine wpAnyH_take (i := 7) (oi := ?oi277) (v := .int .u32 (h.x s2 : Nat)) ?hi277 (by kernel_rfl) (by kernel_rfl) (by kernel_rfl) ?hQ277 ?hy277 (by assumption) ?rest277
  case hi277 => (simp only [List.getElem?_toArray, List.getElem?_cons_zero, List.getElem?_cons_succ]; rfl)
  case hQ277 => exact fun _ _ _ h => h
  case hy277 => exact y_word w.heap.size (1 + s2) _ (fun V hV => (hV.1.cell _).trans (h.cell_x s2 h2)) rfl
  simp only [Act.put, List.setIfInBounds_toArray, List.set_cons_zero, List.set_cons_succ]
  refine wpAnyH_take (i := 8) (oi := ?oi278) (v := .agg (A6.cells ⟨2, A, 4, false, 0, h.x s2⟩)) ?hi278 (by kernel_rfl) (by kernel_rfl) (by kernel_rfl) ?hQ278 ?hy278 (by assumption) ?rest278
  case hi278 => (simp only [List.getElem?_toArray, List.getElem?_cons_zero, List.getElem?_cons_succ]; rfl)
  case hQ278 => exact fun _ _ _ h => h
  case hy278 => exact Or.inl ⟨by rfl, by (intro w hSw; (try dsimp only at hSw); go_simp <;> rfl)⟩
  simp only [Act.put, List.setIfInBounds_toArray, List.set_cons_zero, List.set_cons_succ]
  refine wpAnyH_ready (rs := [9]) (by kernel_rfl) (by simp) ?_
  refine AllReadyH.cons (o := ?oi279) ?hi279 (fun K hK => ?_) AllReadyH.nil
  case hi279 => (simp only [List.getElem?_toArray, List.getElem?_cons_zero, List.getElem?_cons_succ]; rfl)
  rw [if_pos (by rfl)]
  (with_reducible refine s_h (w.heap.size + 2) _ h hq ?_ ?_ ?_)
  · exact rfl
  · exact rfl
  intro V2 hq2 ho
  replace hr := hHeld.1.only ho (by omega)
  replace hi := hHeld.2.1.only ho (by omega)
  replace ha := ha.only ho (by omega)
  replace hb := ho.bel _ _ (by omega) hHeld.2.2
  clear hHeld
  refine hK.out _ _ ?_ (fun hHeld => ?_)
  · exact ⟨hr, hi, hb⟩
  clear hK K
  refine wpAnyH_ready (rs := [10]) (by kernel_rfl) (by simp) ?_
  refine AllReadyH.cons (o := ?oi280) ?hi280 (fun K hK => ?_) AllReadyH.nil
  case hi280 => (simp only [List.getElem?_toArray, List.getElem?_cons_zero, List.getElem?_cons_succ]; rfl)
  rw [if_pos (by rfl)]
  (with_reducible refine s_a (w.heap.size + 3) _ ⟨2, A, 4, false, 0, h.x s2⟩ ha ?_ ?_ ?_)
  · exact rfl
  · exact rfl
  intro V3 ha2 ho
  replace hr := hr.only ho (by omega)
  replace hi := hi.only ho (by omega)
  replace hq2 := hq2.only ho (by omega)
  replace hb := ho.bel _ _ (by omega) hb
  refine hK.out _ _ ?_ (fun hHeld => ?_)
  · exact ⟨hr, hi, hb⟩
  clear hK K
  refine wpAnyH_done (by kernel_rfl) ?_ _
  go_wp2
  refine bodyPost_ret (results_two_rows Tryd.results25 _ _ (w.heap.size + 2) (w.heap.size + 3) _ _ _ _ _ _ rfl hq2 Tryd.underlying31 rfl size_hart rfl ha2 Tryd.underlying33 rfl size_acc) rfl ?_
  exact ⟨rfl, hb⟩

set_option maxHeartbeats 1000000 in
theorem store_17no (h : H) (ok : h.Ok) (rd s1 s2 : Nat) (im cs : Int) (h1 : s1 < 32) (h2 : s2 < 32) (A : Nat) (hA : (h.x s1 + immN im) % 4294967296 = A) (ht : ¬ A % 4 = 0) (w : World) (hV : WidAt w) :
    Calls Tryd.prog 25 #[.agg h.cells, .agg (I6.cells ⟨17, (rd : Nat), (s1 : Nat), (s2 : Nat), im, cs⟩)] w fun e w' => e = .returned (.tuple #[.agg (trapH h 6 A).cells, .agg (A6.cells noA)]) ∧ Below w.heap.size w w' := by
  have b1 : (0 : Int) ≤ s1 := by omega
  have b2 : (s1 : Int) < 32 := by omega
  have b3 : (0 : Int) ≤ s2 := by omega
  have b4 : (s2 : Int) < 32 := by omega
  have hA1 : (((h.x s1 : Nat) : Int) + im) % 4294967296 = (A : Int) := by have := immN_cast im; omega
  have hA2 : (((h.x s1 : Nat) : Int) + im % 4294967296) % 4294967296 = (A : Int) := by have := immN_cast im; omega
  have HV := hide hV
  clear hA hV
  have t0 : ((A : Int) % 4 != 0) = true := by simp; omega
  clear ht
  have HT := hide (fun w => trap_any h ok 6 A (by decide) w)
  rw [show (((6 : Nat) : Int)) = 6 from rfl] at HT
  go_enter Tryd.func25, Tryd.ntmps25
  go_wp2_with (first | ((with_reducible refine bx_h w.heap.size h ?_ ?_ ?_); exact rfl; exact rfl; intro W hr hb hz) | ((with_reducible refine bx_i (w.heap.size + 1) ⟨17, (rd : Nat), (s1 : Nat), (s2 : Nat), im, cs⟩ ?_ ?_ ?_); exact hz.out; exact rfl; intro W hi hb' hz'; replace hr := hr.bl (hz.out ▸ hb'); replace hb := hb.trans (hb'.mono (by omega)); replace hz := hz') | ((with_reducible refine al_h (w.heap.size + 2) ?_ ?_); exact hz.out; intro W hq hb' hz'; replace hr := hr.bl (hz.out ▸ hb'); replace hi := hi.bl (hz.out ▸ hb'); replace hb := hb.trans (hb'.mono (by omega)); replace hz := hz') | ((with_reducible refine al_a (w.heap.size + 3) ?_ ?_); exact hz.out; intro W ha hb' hz'; replace hr := hr.bl (hz.out ▸ hb'); replace hi := hi.bl (hz.out ▸ hb'); replace hq := hq.bl (hz.out ▸ hb'); replace hb := hb.trans (hb'.mono (by omega)); replace hz := hz'))
  refine wp_region_held_drew (S := (fun V => RowAt V w.heap.size h.cells 31 ∧ RowAt V (w.heap.size + 1) (I6.cells ⟨17, (rd : Nat), (s1 : Nat), (s2 : Nat), im, cs⟩) 61 ∧ Below w.heap.size w V)) (by kernel_rfl) ?_ (fun hHeld => ?_)
  · exact ⟨hr.dr, hi.dr, hb.drew⟩
  replace hq := hq.dr
  replace ha := ha.dr
  refine wpAnyH_take (i := 0) (oi := ?oi281) (v := .pointer (some ⟨w.heap.size + 1, 2, none⟩)) ?hi281 (by kernel_rfl) (by kernel_rfl) (by kernel_rfl) ?hQ281 ?hy281 (by assumption) ?rest281
  case hi281 => (simp only [List.getElem?_toArray, List.getElem?_cons_zero]; rfl)
  case hQ281 => exact fun _ _ _ h => h
  case hy281 => exact Or.inl ⟨by rfl, by (intro w hSw; (try dsimp only at hSw); go_simp )⟩
  simp only [Act.put, List.setIfInBounds_toArray, List.set_cons_zero, List.set_cons_succ]
  refine wpAnyH_take (i := 1) (oi := ?oi282) (v := .int .i64 (s1 : Nat)) ?hi282 (by kernel_rfl) (by kernel_rfl) (by kernel_rfl) ?hQ282 ?hy282 (by assumption) ?rest282
  case hi282 => (simp only [List.getElem?_toArray, List.getElem?_cons_zero, List.getElem?_cons_succ]; rfl)
  case hQ282 => exact fun _ _ _ h => h
  case hy282 => exact y_int (w.heap.size + 1) 2 _ (fun V hV => (hV.2.1.cell 2).trans rfl) rfl
  simp only [Act.put, List.setIfInBounds_toArray, List.set_cons_zero, List.set_cons_succ]
  refine wpAnyH_take (i := 2) (oi := ?oi283) (v := .pointer (some ⟨w.heap.size, 1, none⟩)) ?hi283 (by kernel_rfl) (by kernel_rfl) (by kernel_rfl) ?hQ283 ?hy283 (by assumption) ?rest283
  case hi283 => (simp only [List.getElem?_toArray, List.getElem?_cons_zero, List.getElem?_cons_succ]; rfl)
  case hQ283 => exact fun _ _ _ h => h
  case hy283 => exact Or.inl ⟨by rfl, by (intro w hSw; (try dsimp only at hSw); go_simp )⟩
  simp only [Act.put, List.setIfInBounds_toArray, List.set_cons_zero, List.set_cons_succ]
  refine wpAnyH_take (i := 3) (oi := ?oi284) (v := .pointer (some ⟨w.heap.size, 1 + s1, none⟩)) ?hi284 (by kernel_rfl) (by kernel_rfl) (by kernel_rfl) ?hQ284 ?hy284 (by assumption) ?rest284
  case hi284 => (simp only [List.getElem?_toArray, List.getElem?_cons_zero, List.getElem?_cons_succ]; rfl)
  case hQ284 => exact fun _ _ _ h => h
  case hy284 => exact Or.inl ⟨by rfl, by (intro w hSw; (try dsimp only at hSw); go_simp )⟩
  simp only [Act.put, List.setIfInBounds_toArray, List.set_cons_zero, List.set_cons_succ]
  refine wpAnyH_take (i := 4) (oi := ?oi285) (v := .int .u32 (h.x s1 : Nat)) ?hi285 (by kernel_rfl) (by kernel_rfl) (by kernel_rfl) ?hQ285 ?hy285 (by assumption) ?rest285
  case hi285 => (simp only [List.getElem?_toArray, List.getElem?_cons_zero, List.getElem?_cons_succ]; rfl)
  case hQ285 => exact fun _ _ _ h => h
  case hy285 => exact y_word w.heap.size (1 + s1) _ (fun V hV => (hV.1.cell _).trans (h.cell_x s1 h1)) rfl
  simp only [Act.put, List.setIfInBounds_toArray, List.set_cons_zero, List.set_cons_succ]
  refine wpAnyH_take (i := 5) (oi := ?oi286) (v := .pointer (some ⟨w.heap.size + 1, 4, none⟩)) ?hi286 (by kernel_rfl) (by kernel_rfl) (by kernel_rfl) ?hQ286 ?hy286 (by assumption) ?rest286
  case hi286 => (simp only [List.getElem?_toArray, List.getElem?_cons_zero, List.getElem?_cons_succ]; rfl)
  case hQ286 => exact fun _ _ _ h => h
  case hy286 => exact Or.inl ⟨by rfl, by (intro w hSw; (try dsimp only at hSw); go_simp )⟩
  simp only [Act.put, List.setIfInBounds_toArray, List.set_cons_zero, List.set_cons_succ]
  refine wpAnyH_take (i := 6) (oi := ?oi287) (v := .int .i64 im) ?hi287 (by kernel_rfl) (by kernel_rfl) (by kernel_rfl) ?hQ287 ?hy287 (by assumption) ?rest287
  case hi287 => (simp only [List.getElem?_toArray, List.getElem?_cons_zero, List.getElem?_cons_succ]; rfl)
  case hQ287 => exact fun _ _ _ h => h
  case hy287 => exact y_int (w.heap.size + 1) 4 _ (fun V hV => (hV.2.1.cell 4).trans rfl) rfl
  simp only [Act.put, List.setIfInBounds_toArray, List.set_cons_zero, List.set_cons_succ]
  refine wpAnyH_take (i := 7) (oi := ?oi288) (v := .int .u32 (im % 4294967296)) ?hi288 (by kernel_rfl) (by kernel_rfl) (by kernel_rfl) ?hQ288 ?hy288 (by assumption) ?rest288
  case hi288 => (simp only [List.getElem?_toArray, List.getElem?_cons_zero, List.getElem?_cons_succ]; rfl)
  case hQ288 => exact fun _ _ _ h => h
  case hy288 => exact Or.inl ⟨by rfl, by (intro w hSw; (try dsimp only at hSw); go_simp <;> first | rfl | exact IntKind.wrap_u32 _)⟩
  simp only [Act.put, List.setIfInBounds_toArray, List.set_cons_zero, List.set_cons_succ]
  refine wpAnyH_take (i := 8) (oi := ?oi289) (v := .int .u32 (A : Nat)) ?hi289 (by kernel_rfl) (by kernel_rfl) (by kernel_rfl) ?hQ289 ?hy289 (by assumption) ?rest289
  case hi289 => (simp only [List.getElem?_toArray, List.getElem?_cons_zero, List.getElem?_cons_succ]; rfl)
  case hQ289 => exact fun _ _ _ h => h
  case hy289 => exact Or.inl ⟨by rfl, by (intro w hSw; (try dsimp only at hSw); go_simp <;> first | exact hA2 | exact hA1 | (rw [IntKind.wrap_u32]; omega))⟩
  simp only [Act.put, List.setIfInBounds_toArray, List.set_cons_zero, List.set_cons_succ]
  refine wpAnyH_take (i := 9) (oi := ?oi290) (v := .pointer (some ⟨w.heap.size + 1, 0, none⟩)) ?hi290 (by kernel_rfl) (by kernel_rfl) (by kernel_rfl) ?hQ290 ?hy290 (by assumption) ?rest290
  case hi290 => (simp only [List.getElem?_toArray, List.getElem?_cons_zero, List.getElem?_cons_succ]; rfl)
  case hQ290 => exact fun _ _ _ h => h
  case hy290 => exact Or.inl ⟨by rfl, by (intro w hSw; (try dsimp only at hSw); go_simp )⟩
  simp only [Act.put, List.setIfInBounds_toArray, List.set_cons_zero, List.set_cons_succ]
  refine wpAnyH_take (i := 10) (oi := ?oi291) (v := .int .i64 17) ?hi291 (by kernel_rfl) (by kernel_rfl) (by kernel_rfl) ?hQ291 ?hy291 (by assumption) ?rest291
  case hi291 => (simp only [List.getElem?_toArray, List.getElem?_cons_zero, List.getElem?_cons_succ]; rfl)
  case hQ291 => exact fun _ _ _ h => h
  case hy291 => exact y_int (w.heap.size + 1) 0 _ (fun V hV => (hV.2.1.cell 0).trans rfl) rfl
  simp only [Act.put, List.setIfInBounds_toArray, List.set_cons_zero, List.set_cons_succ]
  refine wpAnyH_take (i := 11) (oi := ?oi292) (v := .int .i64 2) ?hi292 (by kernel_rfl) (by kernel_rfl) (by kernel_rfl) ?hQ292 ?hy292 (by assumption) ?rest292
  case hi292 => (simp only [List.getElem?_toArray, List.getElem?_cons_zero, List.getElem?_cons_succ]; rfl)
  case hQ292 => exact fun _ _ _ h => h
  case hy292 => exact Or.inl ⟨by rfl, by (intro w hSw; (try dsimp only at hSw); go_simp <;> first | rfl | decide)⟩
  simp only [Act.put, List.setIfInBounds_toArray, List.set_cons_zero, List.set_cons_succ]
  refine wpAnyH_take (i := 12) (oi := ?oi293) (v := .pointer (some ⟨2, 2, none⟩)) ?hi293 (by kernel_rfl) (by kernel_rfl) (by kernel_rfl) ?hQ293 ?hy293 (by assumption) ?rest293
  case hi293 => (simp only [List.getElem?_toArray, List.getElem?_cons_zero, List.getElem?_cons_succ]; rfl)
  case hQ293 => exact fun _ _ _ h => h
  case hy293 => exact Or.inl ⟨by rfl, by (intro w hSw; (try dsimp only at hSw); go_simp )⟩
  simp only [Act.put, List.setIfInBounds_toArray, List.set_cons_zero, List.set_cons_succ]
  refine wpAnyH_take (i := 13) (oi := ?oi294) (v := .int .i64 4) ?hi294 (by kernel_rfl) (by kernel_rfl) (by kernel_rfl) ?hQ294 ?hy294 (by assumption) ?rest294
  case hi294 => (simp only [List.getElem?_toArray, List.getElem?_cons_zero, List.getElem?_cons_succ]; rfl)
  case hQ294 => exact fun _ _ _ h => h
  case hy294 => exact y_int 2 2 _ (fun V hV => (HV.out.below hV.2.2) 2 (by decide)) rfl
  simp only [Act.put, List.setIfInBounds_toArray, List.set_cons_zero, List.set_cons_succ]
  refine wpAnyH_take (i := 14) (oi := ?oi295) (v := .int .u32 (A : Nat)) ?hi295 (by kernel_rfl) (by kernel_rfl) (by kernel_rfl) ?hQ295 ?hy295 (by assumption) ?rest295
  case hi295 => (simp only [List.getElem?_toArray, List.getElem?_cons_zero, List.getElem?_cons_succ]; rfl)
  case hQ295 => exact fun _ _ _ h => h
  case hy295 => exact Or.inl ⟨by rfl, by (intro w hSw; (try dsimp only at hSw); go_simp )⟩
  simp only [Act.put, List.setIfInBounds_toArray, List.set_cons_zero, List.set_cons_succ]
  refine wpAnyH_take (i := 15) (oi := ?oi296) (v := .int .i64 4) ?hi296 (by kernel_rfl) (by kernel_rfl) (by kernel_rfl) ?hQ296 ?hy296 (by assumption) ?rest296
  case hi296 => (simp only [List.getElem?_toArray, List.getElem?_cons_zero, List.getElem?_cons_succ]; rfl)
  case hQ296 => exact fun _ _ _ h => h
  case hy296 => exact Or.inl ⟨by rfl, by (intro w hSw; (try dsimp only at hSw); go_simp )⟩
  simp only [Act.put, List.setIfInBounds_toArray, List.set_cons_zero, List.set_cons_succ]
  refine wpAnyH_done (by kernel_rfl) ?_ _
  clear hHeld
  replace hr := hr.dr
  replace hi := hi.dr
  replace hb := hb.drew
  go_wp2_with (first | ((with_reducible refine ld_h w.heap.size _ hr ?_ ?_); exact rfl) | (go_at_call 22; refine (HT.out _).mono ?_; rintro e W ⟨rfl, hbc⟩; replace hr := hr.bl hbc; replace hi := hi.bl hbc; replace hq := hq.bl hbc; replace ha := ha.bl hbc; replace hb := below_bl rfl hb hbc) | ((with_reducible refine st_h (w.heap.size + 2) _ (trapH h 6 A) hq ?_ ?_ ?_); exact rfl; exact rfl; intro W hnew ho; replace hr := hr.only ho (by omega); replace hi := hi.only ho (by omega); replace ha := ha.only ho (by omega); replace hq := hnew; replace hb := ho.bel _ _ (by omega) hb) | ((with_reducible refine st_a (w.heap.size + 3) _ noA ha ?_ ?_ ?_); exact rfl; exact rfl; intro W hnew ho; replace hr := hr.only ho (by omega); replace hi := hi.only ho (by omega); replace hq := hq.only ho (by omega); replace ha := hnew; replace hb := ho.bel _ _ (by omega) hb))
  refine bodyPost_ret (results_two_rows Tryd.results25 _ _ (w.heap.size + 2) (w.heap.size + 3) _ _ _ _ _ _ rfl hq Tryd.underlying31 rfl size_hart rfl ha Tryd.underlying33 rfl size_acc) rfl ?_
  exact ⟨rfl, hb⟩

end Go.Proofs.YtelakpogochifaaDoor
