/-
  What hart.load answers.
-/
import Derived.Test.YtchjhpeogdkbmaaDoorTk
import Derived.Test.YtchjhpeogdkbmaaDoorHaSys
import Derived.Deep.QuietTactic
import Derived.BigQuiet
import Derived.Deep.RegionHeld3
namespace Go.Proofs.YtchjhpeogdkbmaaDoor
open Go.RowKit
set_option linter.unusedVariables false

/-- The bytes of loads and stores stand there. -/
def WidAt (w : World) : Prop := ∀ j, j < 5 → w.cell? ⟨2, j, none⟩ = some (.int .i64 (widN j : Nat))
theorem WidAt.below {w w' : World} (h : WidAt w) (hb : Below w.heap.size w w') : WidAt w' := fun j hj => (hb.cell (p := ⟨2, j, none⟩) (lt_of_cell (h 0 (by decide)))).trans (h j hj)

set_option maxHeartbeats 1000000 in
theorem load_10 (h : H) (ok : h.Ok) (rd s1 s2 : Nat) (im cs : Int) (h1 : s1 < 32) (h2 : s2 < 32) (A : Nat) (hA : (h.x s1 + immN im) % 4294967296 = A)  (w : World) (hV : WidAt w) :
    Calls Tryd.prog 24 #[.agg h.cells, .agg (I6.cells ⟨10, (rd : Nat), (s1 : Nat), (s2 : Nat), im, cs⟩)] w fun e w' => e = .returned (.tuple #[.agg (h).cells, .agg (A6.cells ⟨1, A, 1, true, (rd : Nat), 0⟩)]) ∧ Below w.heap.size w w' := by
  have b1 : (0 : Int) ≤ s1 := by omega
  have b2 : (s1 : Int) < 32 := by omega
  have b3 : (0 : Int) ≤ s2 := by omega
  have b4 : (s2 : Int) < 32 := by omega
  have hA1 : (((h.x s1 : Nat) : Int) + im) % 4294967296 = (A : Int) := by have := immN_cast im; omega
  have hA2 : (((h.x s1 : Nat) : Int) + im % 4294967296) % 4294967296 = (A : Int) := by have := immN_cast im; omega
  have HV := hide hV
  clear hA hV
  have t0 : ((A : Int) % 1 != 0) = false := by simp
  go_enter Tryd.func24, Tryd.ntmps24
  go_wp2_with (first | ((with_reducible refine bx_h w.heap.size h ?_ ?_ ?_); exact rfl; exact rfl; intro W hr hb hz) | ((with_reducible refine bx_i (w.heap.size + 1) ⟨10, (rd : Nat), (s1 : Nat), (s2 : Nat), im, cs⟩ ?_ ?_ ?_); exact hz.out; exact rfl; intro W hi hb' hz'; obtain ⟨hr, hb⟩ := an1 hz hb' hr hb; replace hz := hz') | ((with_reducible refine al_h (w.heap.size + 2) ?_ ?_); exact hz.out; intro W hq hb' hz'; obtain ⟨hr, hi, hb⟩ := an2 hz hb' hr hi hb; replace hz := hz') | ((with_reducible refine al_a (w.heap.size + 3) ?_ ?_); exact hz.out; intro W ha hb' hz'; obtain ⟨hr, hi, hq, hb⟩ := an3 hz hb' hr hi hq hb; replace hz := hz'))
  refine wp_region_held_drew (S := (fun V => RowAt V w.heap.size h.cells 31 ∧ RowAt V (w.heap.size + 1) (I6.cells ⟨10, (rd : Nat), (s1 : Nat), (s2 : Nat), im, cs⟩) 61 ∧ Below w.heap.size w V)) (by kernel_rfl) ?_ (fun hHeld => ?_)
  · exact ⟨hr.dr, hi.dr, hb.drew⟩
  replace hq := hq.dr
  replace ha := ha.dr
  refine tkO 0 (.pointer (some ⟨w.heap.size + 1, 2, none⟩)) (by simp only [gT, gZ]; rfl) (puO (by (intro w hSw; (try dsimp only at hSw); go_simp))) ?_
  simp only [Act.put, pA, pZ, pS]
  refine tkO 1 (.int .i64 (s1 : Nat)) (by simp only [gT, gZ, gS]; rfl) (y_int (w.heap.size + 1) 2 _ (fun V hV => (hV.2.1.cell 2).trans rfl) rfl) ?_
  simp only [Act.put, pA, pZ, pS]
  refine tkO 2 (.pointer (some ⟨w.heap.size, 1, none⟩)) (by simp only [gT, gZ, gS]; rfl) (puO (by (intro w hSw; (try dsimp only at hSw); go_simp))) ?_
  simp only [Act.put, pA, pZ, pS]
  refine tkO 3 (.pointer (some ⟨w.heap.size, 1 + s1, none⟩)) (by simp only [gT, gZ, gS]; rfl) (puO (by (intro w hSw; (try dsimp only at hSw); go_simp))) ?_
  simp only [Act.put, pA, pZ, pS]
  refine tkO 4 (.int .u32 (h.x s1 : Nat)) (by simp only [gT, gZ, gS]; rfl) (y_word w.heap.size (1 + s1) _ (fun V hV => (hV.1.cell _).trans (h.cell_x s1 h1)) rfl) ?_
  simp only [Act.put, pA, pZ, pS]
  refine tkO 5 (.pointer (some ⟨w.heap.size + 1, 4, none⟩)) (by simp only [gT, gZ, gS]; rfl) (puO (by (intro w hSw; (try dsimp only at hSw); go_simp))) ?_
  simp only [Act.put, pA, pZ, pS]
  refine tkO 6 (.int .i64 im) (by simp only [gT, gZ, gS]; rfl) (y_int (w.heap.size + 1) 4 _ (fun V hV => (hV.2.1.cell 4).trans rfl) rfl) ?_
  simp only [Act.put, pA, pZ, pS]
  refine tkO 7 (.int .u32 (im % 4294967296)) (by simp only [gT, gZ, gS]; rfl) (puO (by (intro w hSw; (try dsimp only at hSw); go_simp <;> first | rfl | exact IntKind.wrap_u32 _))) ?_
  simp only [Act.put, pA, pZ, pS]
  refine tkO 8 (.int .u32 (A : Nat)) (by simp only [gT, gZ, gS]; rfl) (puO (by (intro w hSw; (try dsimp only at hSw); go_simp <;> first | exact hA2 | exact hA1 | (rw [IntKind.wrap_u32]; omega)))) ?_
  simp only [Act.put, pA, pZ, pS]
  refine tkO 9 (.pointer (some ⟨w.heap.size + 1, 0, none⟩)) (by simp only [gT, gZ, gS]; rfl) (puO (by (intro w hSw; (try dsimp only at hSw); go_simp))) ?_
  simp only [Act.put, pA, pZ, pS]
  refine tkO 10 (.int .i64 10) (by simp only [gT, gZ, gS]; rfl) (y_int (w.heap.size + 1) 0 _ (fun V hV => (hV.2.1.cell 0).trans rfl) rfl) ?_
  simp only [Act.put, pA, pZ, pS]
  refine tkO 11 (.int .i64 0) (by simp only [gT, gZ, gS]; rfl) (puO (by (intro w hSw; (try dsimp only at hSw); go_simp <;> first | rfl | decide))) ?_
  simp only [Act.put, pA, pZ, pS]
  refine tkO 12 (.pointer (some ⟨2, 0, none⟩)) (by simp only [gT, gZ, gS]; rfl) (puO (by (intro w hSw; (try dsimp only at hSw); go_simp))) ?_
  simp only [Act.put, pA, pZ, pS]
  refine tkO 13 (.int .i64 1) (by simp only [gT, gZ, gS]; rfl) (y_int 2 0 _ (fun V hV => (HV.out.below hV.2.2) 0 (by decide)) rfl) ?_
  simp only [Act.put, pA, pZ, pS]
  refine tkO 14 (.int .u32 (A : Nat)) (by simp only [gT, gZ, gS]; rfl) (puO (by (intro w hSw; (try dsimp only at hSw); go_simp))) ?_
  simp only [Act.put, pA, pZ, pS]
  refine tkO 15 (.int .i64 1) (by simp only [gT, gZ, gS]; rfl) (puO (by (intro w hSw; (try dsimp only at hSw); go_simp))) ?_
  simp only [Act.put, pA, pZ, pS]
  refine wpAnyH_done (by kernel_rfl) ?_ _
  clear hHeld
  replace hr := hr.dr
  replace hi := hi.dr
  replace hb := hb.drew
  go_wp2_with (first | ((with_reducible refine ld_h w.heap.size _ hr ?_ ?_); exact rfl))
  refine wp_region_held_drew (S := (fun V => RowAt V w.heap.size h.cells 31 ∧ RowAt V (w.heap.size + 1) (I6.cells ⟨10, (rd : Nat), (s1 : Nat), (s2 : Nat), im, cs⟩) 61 ∧ Below w.heap.size w V)) (by kernel_rfl) ?_ (fun hHeld => ?_)
  · exact ⟨hr.dr, hi.dr, hb.drew⟩
  replace hq := hq.dr
  replace ha := ha.dr
  refine tkO 0 (.agg h.cells) (by simp only [gT, gZ]; rfl) (y_h w.heap.size h (fun V hV => hV.1) rfl) ?_
  simp only [Act.put, pA, pZ, pS]
  refine tkO 1 (.int .u32 (A : Nat)) (by simp only [gT, gZ, gS]; rfl) (puO (by (intro w hSw; (try dsimp only at hSw); go_simp))) ?_
  simp only [Act.put, pA, pZ, pS]
  refine tkO 2 (.int .i64 1) (by simp only [gT, gZ, gS]; rfl) (puO (by (intro w hSw; (try dsimp only at hSw); go_simp))) ?_
  simp only [Act.put, pA, pZ, pS]
  refine tkO 3 (.pointer (some ⟨w.heap.size + 1, 0, none⟩)) (by simp only [gT, gZ, gS]; rfl) (puO (by (intro w hSw; (try dsimp only at hSw); go_simp))) ?_
  simp only [Act.put, pA, pZ, pS]
  refine tkO 4 (.int .i64 10) (by simp only [gT, gZ, gS]; rfl) (y_int (w.heap.size + 1) 0 _ (fun V hV => (hV.2.1.cell 0).trans rfl) rfl) ?_
  simp only [Act.put, pA, pZ, pS]
  refine tkO 5 (.bool true) (by simp only [gT, gZ, gS]; rfl) (puO (by (intro w hSw; (try dsimp only at hSw); go_simp))) ?_
  simp only [Act.put, pA, pZ, pS]
  refine tkO 6 (.pointer (some ⟨w.heap.size + 1, 1, none⟩)) (by simp only [gT, gZ, gS]; rfl) (puO (by (intro w hSw; (try dsimp only at hSw); go_simp))) ?_
  simp only [Act.put, pA, pZ, pS]
  refine tkO 7 (.int .i64 (rd : Nat)) (by simp only [gT, gZ, gS]; rfl) (y_int (w.heap.size + 1) 1 _ (fun V hV => (hV.2.1.cell 1).trans rfl) rfl) ?_
  simp only [Act.put, pA, pZ, pS]
  refine tkO 8 (.agg (A6.cells ⟨1, A, 1, true, (rd : Nat), 0⟩)) (by simp only [gT, gZ, gS]; rfl) (puO (by (intro w hSw; (try dsimp only at hSw); go_simp <;> rfl))) ?_
  simp only [Act.put, pA, pZ, pS]
  refine skO 9 (by simp only [gT, gZ, gS]; rfl) (fun K hK => ?_)
  rw [if_pos (by rfl)]
  (with_reducible refine s_h (w.heap.size + 2) _ h hq ?_ ?_ ?_)
  · exact rfl
  · exact rfl
  intro V2 hq2 ho
  replace hr := hHeld.1.only ho (by omega)
  replace hi := hHeld.2.1.only ho (by omega)
  replace ha := ha.only ho (by omega)
  replace hb := ho.bel _ _ (by omega) hHeld.2.2
  clear hHeld
  refine hK.out _ _ ?_ (fun hHeld => ?_)
  · exact ⟨hr, hi, hb⟩
  clear hK K
  refine skO 10 (by simp only [gT, gZ, gS]; rfl) (fun K hK => ?_)
  rw [if_pos (by rfl)]
  (with_reducible refine s_a (w.heap.size + 3) _ ⟨1, A, 1, true, (rd : Nat), 0⟩ ha ?_ ?_ ?_)
  · exact rfl
  · exact rfl
  intro V3 ha2 ho
  replace hr := hr.only ho (by omega)
  replace hi := hi.only ho (by omega)
  replace hq2 := hq2.only ho (by omega)
  replace hb := ho.bel _ _ (by omega) hb
  refine hK.out _ _ ?_ (fun hHeld => ?_)
  · exact ⟨hr, hi, hb⟩
  clear hK K
  refine wpAnyH_done (by kernel_rfl) ?_ _
  go_wp2
  refine bodyPost_ret (results_two_rows Tryd.results24 _ _ (w.heap.size + 2) (w.heap.size + 3) _ _ _ _ _ _ rfl hq2 Tryd.underlying31 rfl size_hart rfl ha2 Tryd.underlying33 rfl size_acc) rfl ?_
  exact ⟨rfl, hb⟩

set_option maxHeartbeats 1000000 in
theorem load_11 (h : H) (ok : h.Ok) (rd s1 s2 : Nat) (im cs : Int) (h1 : s1 < 32) (h2 : s2 < 32) (A : Nat) (hA : (h.x s1 + immN im) % 4294967296 = A) (ht :  A % 2 = 0) (w : World) (hV : WidAt w) :
    Calls Tryd.prog 24 #[.agg h.cells, .agg (I6.cells ⟨11, (rd : Nat), (s1 : Nat), (s2 : Nat), im, cs⟩)] w fun e w' => e = .returned (.tuple #[.agg (h).cells, .agg (A6.cells ⟨1, A, 2, true, (rd : Nat), 0⟩)]) ∧ Below w.heap.size w w' := by
  have b1 : (0 : Int) ≤ s1 := by omega
  have b2 : (s1 : Int) < 32 := by omega
  have b3 : (0 : Int) ≤ s2 := by omega
  have b4 : (s2 : Int) < 32 := by omega
  have hA1 : (((h.x s1 : Nat) : Int) + im) % 4294967296 = (A : Int) := by have := immN_cast im; omega
  have hA2 : (((h.x s1 : Nat) : Int) + im % 4294967296) % 4294967296 = (A : Int) := by have := immN_cast im; omega
  have HV := hide hV
  clear hA hV
  have t0 : ((A : Int) % 2 != 0) = false := by simp; omega
  clear ht
  go_enter Tryd.func24, Tryd.ntmps24
  go_wp2_with (first | ((with_reducible refine bx_h w.heap.size h ?_ ?_ ?_); exact rfl; exact rfl; intro W hr hb hz) | ((with_reducible refine bx_i (w.heap.size + 1) ⟨11, (rd : Nat), (s1 : Nat), (s2 : Nat), im, cs⟩ ?_ ?_ ?_); exact hz.out; exact rfl; intro W hi hb' hz'; obtain ⟨hr, hb⟩ := an1 hz hb' hr hb; replace hz := hz') | ((with_reducible refine al_h (w.heap.size + 2) ?_ ?_); exact hz.out; intro W hq hb' hz'; obtain ⟨hr, hi, hb⟩ := an2 hz hb' hr hi hb; replace hz := hz') | ((with_reducible refine al_a (w.heap.size + 3) ?_ ?_); exact hz.out; intro W ha hb' hz'; obtain ⟨hr, hi, hq, hb⟩ := an3 hz hb' hr hi hq hb; replace hz := hz'))
  refine wp_region_held_drew (S := (fun V => RowAt V w.heap.size h.cells 31 ∧ RowAt V (w.heap.size + 1) (I6.cells ⟨11, (rd : Nat), (s1 : Nat), (s2 : Nat), im, cs⟩) 61 ∧ Below w.heap.size w V)) (by kernel_rfl) ?_ (fun hHeld => ?_)
  · exact ⟨hr.dr, hi.dr, hb.drew⟩
  replace hq := hq.dr
  replace ha := ha.dr
  refine tkO 0 (.pointer (some ⟨w.heap.size + 1, 2, none⟩)) (by simp only [gT, gZ]; rfl) (puO (by (intro w hSw; (try dsimp only at hSw); go_simp))) ?_
  simp only [Act.put, pA, pZ, pS]
  refine tkO 1 (.int .i64 (s1 : Nat)) (by simp only [gT, gZ, gS]; rfl) (y_int (w.heap.size + 1) 2 _ (fun V hV => (hV.2.1.cell 2).trans rfl) rfl) ?_
  simp only [Act.put, pA, pZ, pS]
  refine tkO 2 (.pointer (some ⟨w.heap.size, 1, none⟩)) (by simp only [gT, gZ, gS]; rfl) (puO (by (intro w hSw; (try dsimp only at hSw); go_simp))) ?_
  simp only [Act.put, pA, pZ, pS]
  refine tkO 3 (.pointer (some ⟨w.heap.size, 1 + s1, none⟩)) (by simp only [gT, gZ, gS]; rfl) (puO (by (intro w hSw; (try dsimp only at hSw); go_simp))) ?_
  simp only [Act.put, pA, pZ, pS]
  refine tkO 4 (.int .u32 (h.x s1 : Nat)) (by simp only [gT, gZ, gS]; rfl) (y_word w.heap.size (1 + s1) _ (fun V hV => (hV.1.cell _).trans (h.cell_x s1 h1)) rfl) ?_
  simp only [Act.put, pA, pZ, pS]
  refine tkO 5 (.pointer (some ⟨w.heap.size + 1, 4, none⟩)) (by simp only [gT, gZ, gS]; rfl) (puO (by (intro w hSw; (try dsimp only at hSw); go_simp))) ?_
  simp only [Act.put, pA, pZ, pS]
  refine tkO 6 (.int .i64 im) (by simp only [gT, gZ, gS]; rfl) (y_int (w.heap.size + 1) 4 _ (fun V hV => (hV.2.1.cell 4).trans rfl) rfl) ?_
  simp only [Act.put, pA, pZ, pS]
  refine tkO 7 (.int .u32 (im % 4294967296)) (by simp only [gT, gZ, gS]; rfl) (puO (by (intro w hSw; (try dsimp only at hSw); go_simp <;> first | rfl | exact IntKind.wrap_u32 _))) ?_
  simp only [Act.put, pA, pZ, pS]
  refine tkO 8 (.int .u32 (A : Nat)) (by simp only [gT, gZ, gS]; rfl) (puO (by (intro w hSw; (try dsimp only at hSw); go_simp <;> first | exact hA2 | exact hA1 | (rw [IntKind.wrap_u32]; omega)))) ?_
  simp only [Act.put, pA, pZ, pS]
  refine tkO 9 (.pointer (some ⟨w.heap.size + 1, 0, none⟩)) (by simp only [gT, gZ, gS]; rfl) (puO (by (intro w hSw; (try dsimp only at hSw); go_simp))) ?_
  simp only [Act.put, pA, pZ, pS]
  refine tkO 10 (.int .i64 11) (by simp only [gT, gZ, gS]; rfl) (y_int (w.heap.size + 1) 0 _ (fun V hV => (hV.2.1.cell 0).trans rfl) rfl) ?_
  simp only [Act.put, pA, pZ, pS]
  refine tkO 11 (.int .i64 1) (by simp only [gT, gZ, gS]; rfl) (puO (by (intro w hSw; (try dsimp only at hSw); go_simp <;> first | rfl | decide))) ?_
  simp only [Act.put, pA, pZ, pS]
  refine tkO 12 (.pointer (some ⟨2, 1, none⟩)) (by simp only [gT, gZ, gS]; rfl) (puO (by (intro w hSw; (try dsimp only at hSw); go_simp))) ?_
  simp only [Act.put, pA, pZ, pS]
  refine tkO 13 (.int .i64 2) (by simp only [gT, gZ, gS]; rfl) (y_int 2 1 _ (fun V hV => (HV.out.below hV.2.2) 1 (by decide)) rfl) ?_
  simp only [Act.put, pA, pZ, pS]
  refine tkO 14 (.int .u32 (A : Nat)) (by simp only [gT, gZ, gS]; rfl) (puO (by (intro w hSw; (try dsimp only at hSw); go_simp))) ?_
  simp only [Act.put, pA, pZ, pS]
  refine tkO 15 (.int .i64 2) (by simp only [gT, gZ, gS]; rfl) (puO (by (intro w hSw; (try dsimp only at hSw); go_simp))) ?_
  simp only [Act.put, pA, pZ, pS]
  refine wpAnyH_done (by kernel_rfl) ?_ _
  clear hHeld
  replace hr := hr.dr
  replace hi := hi.dr
  replace hb := hb.drew
  go_wp2_with (first | ((with_reducible refine ld_h w.heap.size _ hr ?_ ?_); exact rfl))
  refine wp_region_held_drew (S := (fun V => RowAt V w.heap.size h.cells 31 ∧ RowAt V (w.heap.size + 1) (I6.cells ⟨11, (rd : Nat), (s1 : Nat), (s2 : Nat), im, cs⟩) 61 ∧ Below w.heap.size w V)) (by kernel_rfl) ?_ (fun hHeld => ?_)
  · exact ⟨hr.dr, hi.dr, hb.drew⟩
  replace hq := hq.dr
  replace ha := ha.dr
  refine tkO 0 (.agg h.cells) (by simp only [gT, gZ]; rfl) (y_h w.heap.size h (fun V hV => hV.1) rfl) ?_
  simp only [Act.put, pA, pZ, pS]
  refine tkO 1 (.int .u32 (A : Nat)) (by simp only [gT, gZ, gS]; rfl) (puO (by (intro w hSw; (try dsimp only at hSw); go_simp))) ?_
  simp only [Act.put, pA, pZ, pS]
  refine tkO 2 (.int .i64 2) (by simp only [gT, gZ, gS]; rfl) (puO (by (intro w hSw; (try dsimp only at hSw); go_simp))) ?_
  simp only [Act.put, pA, pZ, pS]
  refine tkO 3 (.pointer (some ⟨w.heap.size + 1, 0, none⟩)) (by simp only [gT, gZ, gS]; rfl) (puO (by (intro w hSw; (try dsimp only at hSw); go_simp))) ?_
  simp only [Act.put, pA, pZ, pS]
  refine tkO 4 (.int .i64 11) (by simp only [gT, gZ, gS]; rfl) (y_int (w.heap.size + 1) 0 _ (fun V hV => (hV.2.1.cell 0).trans rfl) rfl) ?_
  simp only [Act.put, pA, pZ, pS]
  refine tkO 5 (.bool true) (by simp only [gT, gZ, gS]; rfl) (puO (by (intro w hSw; (try dsimp only at hSw); go_simp))) ?_
  simp only [Act.put, pA, pZ, pS]
  refine tkO 6 (.pointer (some ⟨w.heap.size + 1, 1, none⟩)) (by simp only [gT, gZ, gS]; rfl) (puO (by (intro w hSw; (try dsimp only at hSw); go_simp))) ?_
  simp only [Act.put, pA, pZ, pS]
  refine tkO 7 (.int .i64 (rd : Nat)) (by simp only [gT, gZ, gS]; rfl) (y_int (w.heap.size + 1) 1 _ (fun V hV => (hV.2.1.cell 1).trans rfl) rfl) ?_
  simp only [Act.put, pA, pZ, pS]
  refine tkO 8 (.agg (A6.cells ⟨1, A, 2, true, (rd : Nat), 0⟩)) (by simp only [gT, gZ, gS]; rfl) (puO (by (intro w hSw; (try dsimp only at hSw); go_simp <;> rfl))) ?_
  simp only [Act.put, pA, pZ, pS]
  refine skO 9 (by simp only [gT, gZ, gS]; rfl) (fun K hK => ?_)
  rw [if_pos (by rfl)]
  (with_reducible refine s_h (w.heap.size + 2) _ h hq ?_ ?_ ?_)
  · exact rfl
  · exact rfl
  intro V2 hq2 ho
  replace hr := hHeld.1.only ho (by omega)
  replace hi := hHeld.2.1.only ho (by omega)
  replace ha := ha.only ho (by omega)
  replace hb := ho.bel _ _ (by omega) hHeld.2.2
  clear hHeld
  refine hK.out _ _ ?_ (fun hHeld => ?_)
  · exact ⟨hr, hi, hb⟩
  clear hK K
  refine skO 10 (by simp only [gT, gZ, gS]; rfl) (fun K hK => ?_)
  rw [if_pos (by rfl)]
  (with_reducible refine s_a (w.heap.size + 3) _ ⟨1, A, 2, true, (rd : Nat), 0⟩ ha ?_ ?_ ?_)
  · exact rfl
  · exact rfl
  intro V3 ha2 ho
  replace hr := hr.only ho (by omega)
  replace hi := hi.only ho (by omega)
  replace hq2 := hq2.only ho (by omega)
  replace hb := ho.bel _ _ (by omega) hb
  refine hK.out _ _ ?_ (fun hHeld => ?_)
  · exact ⟨hr, hi, hb⟩
  clear hK K
  refine wpAnyH_done (by kernel_rfl) ?_ _
  go_wp2
  refine bodyPost_ret (results_two_rows Tryd.results24 _ _ (w.heap.size + 2) (w.heap.size + 3) _ _ _ _ _ _ rfl hq2 Tryd.underlying31 rfl size_hart rfl ha2 Tryd.underlying33 rfl size_acc) rfl ?_
  exact ⟨rfl, hb⟩

set_option maxHeartbeats 1000000 in
theorem load_11no (h : H) (ok : h.Ok) (rd s1 s2 : Nat) (im cs : Int) (h1 : s1 < 32) (h2 : s2 < 32) (A : Nat) (hA : (h.x s1 + immN im) % 4294967296 = A) (ht : ¬ A % 2 = 0) (w : World) (hV : WidAt w) :
    Calls Tryd.prog 24 #[.agg h.cells, .agg (I6.cells ⟨11, (rd : Nat), (s1 : Nat), (s2 : Nat), im, cs⟩)] w fun e w' => e = .returned (.tuple #[.agg (trapH h 4 A).cells, .agg (A6.cells noA)]) ∧ Below w.heap.size w w' := by
  have b1 : (0 : Int) ≤ s1 := by omega
  have b2 : (s1 : Int) < 32 := by omega
  have b3 : (0 : Int) ≤ s2 := by omega
  have b4 : (s2 : Int) < 32 := by omega
  have hA1 : (((h.x s1 : Nat) : Int) + im) % 4294967296 = (A : Int) := by have := immN_cast im; omega
  have hA2 : (((h.x s1 : Nat) : Int) + im % 4294967296) % 4294967296 = (A : Int) := by have := immN_cast im; omega
  have HV := hide hV
  clear hA hV
  have t0 : ((A : Int) % 2 != 0) = true := by simp; omega
  clear ht
  have HT := hide (fun w => trap_any h ok 4 A (by decide) w)
  rw [show (((4 : Nat) : Int)) = 4 from rfl] at HT
  go_enter Tryd.func24, Tryd.ntmps24
  go_wp2_with (first | ((with_reducible refine bx_h w.heap.size h ?_ ?_ ?_); exact rfl; exact rfl; intro W hr hb hz) | ((with_reducible refine bx_i (w.heap.size + 1) ⟨11, (rd : Nat), (s1 : Nat), (s2 : Nat), im, cs⟩ ?_ ?_ ?_); exact hz.out; exact rfl; intro W hi hb' hz'; obtain ⟨hr, hb⟩ := an1 hz hb' hr hb; replace hz := hz') | ((with_reducible refine al_h (w.heap.size + 2) ?_ ?_); exact hz.out; intro W hq hb' hz'; obtain ⟨hr, hi, hb⟩ := an2 hz hb' hr hi hb; replace hz := hz') | ((with_reducible refine al_a (w.heap.size + 3) ?_ ?_); exact hz.out; intro W ha hb' hz'; obtain ⟨hr, hi, hq, hb⟩ := an3 hz hb' hr hi hq hb; replace hz := hz'))
  refine wp_region_held_drew (S := (fun V => RowAt V w.heap.size h.cells 31 ∧ RowAt V (w.heap.size + 1) (I6.cells ⟨11, (rd : Nat), (s1 : Nat), (s2 : Nat), im, cs⟩) 61 ∧ Below w.heap.size w V)) (by kernel_rfl) ?_ (fun hHeld => ?_)
  · exact ⟨hr.dr, hi.dr, hb.drew⟩
  replace hq := hq.dr
  replace ha := ha.dr
  refine tkO 0 (.pointer (some ⟨w.heap.size + 1, 2, none⟩)) (by simp only [gT, gZ]; rfl) (puO (by (intro w hSw; (try dsimp only at hSw); go_simp))) ?_
  simp only [Act.put, pA, pZ, pS]
  refine tkO 1 (.int .i64 (s1 : Nat)) (by simp only [gT, gZ, gS]; rfl) (y_int (w.heap.size + 1) 2 _ (fun V hV => (hV.2.1.cell 2).trans rfl) rfl) ?_
  simp only [Act.put, pA, pZ, pS]
  refine tkO 2 (.pointer (some ⟨w.heap.size, 1, none⟩)) (by simp only [gT, gZ, gS]; rfl) (puO (by (intro w hSw; (try dsimp only at hSw); go_simp))) ?_
  simp only [Act.put, pA, pZ, pS]
  refine tkO 3 (.pointer (some ⟨w.heap.size, 1 + s1, none⟩)) (by simp only [gT, gZ, gS]; rfl) (puO (by (intro w hSw; (try dsimp only at hSw); go_simp))) ?_
  simp only [Act.put, pA, pZ, pS]
  refine tkO 4 (.int .u32 (h.x s1 : Nat)) (by simp only [gT, gZ, gS]; rfl) (y_word w.heap.size (1 + s1) _ (fun V hV => (hV.1.cell _).trans (h.cell_x s1 h1)) rfl) ?_
  simp only [Act.put, pA, pZ, pS]
  refine tkO 5 (.pointer (some ⟨w.heap.size + 1, 4, none⟩)) (by simp only [gT, gZ, gS]; rfl) (puO (by (intro w hSw; (try dsimp only at hSw); go_simp))) ?_
  simp only [Act.put, pA, pZ, pS]
  refine tkO 6 (.int .i64 im) (by simp only [gT, gZ, gS]; rfl) (y_int (w.heap.size + 1) 4 _ (fun V hV => (hV.2.1.cell 4).trans rfl) rfl) ?_
  simp only [Act.put, pA, pZ, pS]
  refine tkO 7 (.int .u32 (im % 4294967296)) (by simp only [gT, gZ, gS]; rfl) (puO (by (intro w hSw; (try dsimp only at hSw); go_simp <;> first | rfl | exact IntKind.wrap_u32 _))) ?_
  simp only [Act.put, pA, pZ, pS]
  refine tkO 8 (.int .u32 (A : Nat)) (by simp only [gT, gZ, gS]; rfl) (puO (by (intro w hSw; (try dsimp only at hSw); go_simp <;> first | exact hA2 | exact hA1 | (rw [IntKind.wrap_u32]; omega)))) ?_
  simp only [Act.put, pA, pZ, pS]
  refine tkO 9 (.pointer (some ⟨w.heap.size + 1, 0, none⟩)) (by simp only [gT, gZ, gS]; rfl) (puO (by (intro w hSw; (try dsimp only at hSw); go_simp))) ?_
  simp only [Act.put, pA, pZ, pS]
  refine tkO 10 (.int .i64 11) (by simp only [gT, gZ, gS]; rfl) (y_int (w.heap.size + 1) 0 _ (fun V hV => (hV.2.1.cell 0).trans rfl) rfl) ?_
  simp only [Act.put, pA, pZ, pS]
  refine tkO 11 (.int .i64 1) (by simp only [gT, gZ, gS]; rfl) (puO (by (intro w hSw; (try dsimp only at hSw); go_simp <;> first | rfl | decide))) ?_
  simp only [Act.put, pA, pZ, pS]
  refine tkO 12 (.pointer (some ⟨2, 1, none⟩)) (by simp only [gT, gZ, gS]; rfl) (puO (by (intro w hSw; (try dsimp only at hSw); go_simp))) ?_
  simp only [Act.put, pA, pZ, pS]
  refine tkO 13 (.int .i64 2) (by simp only [gT, gZ, gS]; rfl) (y_int 2 1 _ (fun V hV => (HV.out.below hV.2.2) 1 (by decide)) rfl) ?_
  simp only [Act.put, pA, pZ, pS]
  refine tkO 14 (.int .u32 (A : Nat)) (by simp only [gT, gZ, gS]; rfl) (puO (by (intro w hSw; (try dsimp only at hSw); go_simp))) ?_
  simp only [Act.put, pA, pZ, pS]
  refine tkO 15 (.int .i64 2) (by simp only [gT, gZ, gS]; rfl) (puO (by (intro w hSw; (try dsimp only at hSw); go_simp))) ?_
  simp only [Act.put, pA, pZ, pS]
  refine wpAnyH_done (by kernel_rfl) ?_ _
  clear hHeld
  replace hr := hr.dr
  replace hi := hi.dr
  replace hb := hb.drew
  go_wp2_with (first | ((with_reducible refine ld_h w.heap.size _ hr ?_ ?_); exact rfl) | (go_at_call 22; refine (HT.out _).mono ?_; rintro e W ⟨rfl, hbc⟩; obtain ⟨hr, hi, hq, ha, hb⟩ := bl4 hbc hr hi hq ha hb) | ((with_reducible refine st_h (w.heap.size + 2) _ (trapH h 4 A) hq ?_ ?_ ?_); exact rfl; exact rfl; intro W hnew ho; obtain ⟨hr, hi, ha, hb⟩ := on3 ho hr hi ha hb; replace hq := hnew) | ((with_reducible refine st_a (w.heap.size + 3) _ noA ha ?_ ?_ ?_); exact rfl; exact rfl; intro W hnew ho; obtain ⟨hr, hi, hq, hb⟩ := on3 ho hr hi hq hb; replace ha := hnew))
  refine bodyPost_ret (results_two_rows Tryd.results24 _ _ (w.heap.size + 2) (w.heap.size + 3) _ _ _ _ _ _ rfl hq Tryd.underlying31 rfl size_hart rfl ha Tryd.underlying33 rfl size_acc) rfl ?_
  exact ⟨rfl, hb⟩

set_option maxHeartbeats 1000000 in
theorem load_12 (h : H) (ok : h.Ok) (rd s1 s2 : Nat) (im cs : Int) (h1 : s1 < 32) (h2 : s2 < 32) (A : Nat) (hA : (h.x s1 + immN im) % 4294967296 = A) (ht :  A % 4 = 0) (w : World) (hV : WidAt w) :
    Calls Tryd.prog 24 #[.agg h.cells, .agg (I6.cells ⟨12, (rd : Nat), (s1 : Nat), (s2 : Nat), im, cs⟩)] w fun e w' => e = .returned (.tuple #[.agg (h).cells, .agg (A6.cells ⟨1, A, 4, true, (rd : Nat), 0⟩)]) ∧ Below w.heap.size w w' := by
  have b1 : (0 : Int) ≤ s1 := by omega
  have b2 : (s1 : Int) < 32 := by omega
  have b3 : (0 : Int) ≤ s2 := by omega
  have b4 : (s2 : Int) < 32 := by omega
  have hA1 : (((h.x s1 : Nat) : Int) + im) % 4294967296 = (A : Int) := by have := immN_cast im; omega
  have hA2 : (((h.x s1 : Nat) : Int) + im % 4294967296) % 4294967296 = (A : Int) := by have := immN_cast im; omega
  have HV := hide hV
  clear hA hV
  have t0 : ((A : Int) % 4 != 0) = false := by simp; omega
  clear ht
  go_enter Tryd.func24, Tryd.ntmps24
  go_wp2_with (first | ((with_reducible refine bx_h w.heap.size h ?_ ?_ ?_); exact rfl; exact rfl; intro W hr hb hz) | ((with_reducible refine bx_i (w.heap.size + 1) ⟨12, (rd : Nat), (s1 : Nat), (s2 : Nat), im, cs⟩ ?_ ?_ ?_); exact hz.out; exact rfl; intro W hi hb' hz'; obtain ⟨hr, hb⟩ := an1 hz hb' hr hb; replace hz := hz') | ((with_reducible refine al_h (w.heap.size + 2) ?_ ?_); exact hz.out; intro W hq hb' hz'; obtain ⟨hr, hi, hb⟩ := an2 hz hb' hr hi hb; replace hz := hz') | ((with_reducible refine al_a (w.heap.size + 3) ?_ ?_); exact hz.out; intro W ha hb' hz'; obtain ⟨hr, hi, hq, hb⟩ := an3 hz hb' hr hi hq hb; replace hz := hz'))
  refine wp_region_held_drew (S := (fun V => RowAt V w.heap.size h.cells 31 ∧ RowAt V (w.heap.size + 1) (I6.cells ⟨12, (rd : Nat), (s1 : Nat), (s2 : Nat), im, cs⟩) 61 ∧ Below w.heap.size w V)) (by kernel_rfl) ?_ (fun hHeld => ?_)
  · exact ⟨hr.dr, hi.dr, hb.drew⟩
  replace hq := hq.dr
  replace ha := ha.dr
  refine tkO 0 (.pointer (some ⟨w.heap.size + 1, 2, none⟩)) (by simp only [gT, gZ]; rfl) (puO (by (intro w hSw; (try dsimp only at hSw); go_simp))) ?_
  simp only [Act.put, pA, pZ, pS]
  refine tkO 1 (.int .i64 (s1 : Nat)) (by simp only [gT, gZ, gS]; rfl) (y_int (w.heap.size + 1) 2 _ (fun V hV => (hV.2.1.cell 2).trans rfl) rfl) ?_
  simp only [Act.put, pA, pZ, pS]
  refine tkO 2 (.pointer (some ⟨w.heap.size, 1, none⟩)) (by simp only [gT, gZ, gS]; rfl) (puO (by (intro w hSw; (try dsimp only at hSw); go_simp))) ?_
  simp only [Act.put, pA, pZ, pS]
  refine tkO 3 (.pointer (some ⟨w.heap.size, 1 + s1, none⟩)) (by simp only [gT, gZ, gS]; rfl) (puO (by (intro w hSw; (try dsimp only at hSw); go_simp))) ?_
  simp only [Act.put, pA, pZ, pS]
  refine tkO 4 (.int .u32 (h.x s1 : Nat)) (by simp only [gT, gZ, gS]; rfl) (y_word w.heap.size (1 + s1) _ (fun V hV => (hV.1.cell _).trans (h.cell_x s1 h1)) rfl) ?_
  simp only [Act.put, pA, pZ, pS]
  refine tkO 5 (.pointer (some ⟨w.heap.size + 1, 4, none⟩)) (by simp only [gT, gZ, gS]; rfl) (puO (by (intro w hSw; (try dsimp only at hSw); go_simp))) ?_
  simp only [Act.put, pA, pZ, pS]
  refine tkO 6 (.int .i64 im) (by simp only [gT, gZ, gS]; rfl) (y_int (w.heap.size + 1) 4 _ (fun V hV => (hV.2.1.cell 4).trans rfl) rfl) ?_
  simp only [Act.put, pA, pZ, pS]
  refine tkO 7 (.int .u32 (im % 4294967296)) (by simp only [gT, gZ, gS]; rfl) (puO (by (intro w hSw; (try dsimp only at hSw); go_simp <;> first | rfl | exact IntKind.wrap_u32 _))) ?_
  simp only [Act.put, pA, pZ, pS]
  refine tkO 8 (.int .u32 (A : Nat)) (by simp only [gT, gZ, gS]; rfl) (puO (by (intro w hSw; (try dsimp only at hSw); go_simp <;> first | exact hA2 | exact hA1 | (rw [IntKind.wrap_u32]; omega)))) ?_
  simp only [Act.put, pA, pZ, pS]
  refine tkO 9 (.pointer (some ⟨w.heap.size + 1, 0, none⟩)) (by simp only [gT, gZ, gS]; rfl) (puO (by (intro w hSw; (try dsimp only at hSw); go_simp))) ?_
  simp only [Act.put, pA, pZ, pS]
  refine tkO 10 (.int .i64 12) (by simp only [gT, gZ, gS]; rfl) (y_int (w.heap.size + 1) 0 _ (fun V hV => (hV.2.1.cell 0).trans rfl) rfl) ?_
  simp only [Act.put, pA, pZ, pS]
  refine tkO 11 (.int .i64 2) (by simp only [gT, gZ, gS]; rfl) (puO (by (intro w hSw; (try dsimp only at hSw); go_simp <;> first | rfl | decide))) ?_
  simp only [Act.put, pA, pZ, pS]
  refine tkO 12 (.pointer (some ⟨2, 2, none⟩)) (by simp only [gT, gZ, gS]; rfl) (puO (by (intro w hSw; (try dsimp only at hSw); go_simp))) ?_
  simp only [Act.put, pA, pZ, pS]
  refine tkO 13 (.int .i64 4) (by simp only [gT, gZ, gS]; rfl) (y_int 2 2 _ (fun V hV => (HV.out.below hV.2.2) 2 (by decide)) rfl) ?_
  simp only [Act.put, pA, pZ, pS]
  refine tkO 14 (.int .u32 (A : Nat)) (by simp only [gT, gZ, gS]; rfl) (puO (by (intro w hSw; (try dsimp only at hSw); go_simp))) ?_
  simp only [Act.put, pA, pZ, pS]
  refine tkO 15 (.int .i64 4) (by simp only [gT, gZ, gS]; rfl) (puO (by (intro w hSw; (try dsimp only at hSw); go_simp))) ?_
  simp only [Act.put, pA, pZ, pS]
  refine wpAnyH_done (by kernel_rfl) ?_ _
  clear hHeld
  replace hr := hr.dr
  replace hi := hi.dr
  replace hb := hb.drew
  go_wp2_with (first | ((with_reducible refine ld_h w.heap.size _ hr ?_ ?_); exact rfl))
  refine wp_region_held_drew (S := (fun V => RowAt V w.heap.size h.cells 31 ∧ RowAt V (w.heap.size + 1) (I6.cells ⟨12, (rd : Nat), (s1 : Nat), (s2 : Nat), im, cs⟩) 61 ∧ Below w.heap.size w V)) (by kernel_rfl) ?_ (fun hHeld => ?_)
  · exact ⟨hr.dr, hi.dr, hb.drew⟩
  replace hq := hq.dr
  replace ha := ha.dr
  refine tkO 0 (.agg h.cells) (by simp only [gT, gZ]; rfl) (y_h w.heap.size h (fun V hV => hV.1) rfl) ?_
  simp only [Act.put, pA, pZ, pS]
  refine tkO 1 (.int .u32 (A : Nat)) (by simp only [gT, gZ, gS]; rfl) (puO (by (intro w hSw; (try dsimp only at hSw); go_simp))) ?_
  simp only [Act.put, pA, pZ, pS]
  refine tkO 2 (.int .i64 4) (by simp only [gT, gZ, gS]; rfl) (puO (by (intro w hSw; (try dsimp only at hSw); go_simp))) ?_
  simp only [Act.put, pA, pZ, pS]
  refine tkO 3 (.pointer (some ⟨w.heap.size + 1, 0, none⟩)) (by simp only [gT, gZ, gS]; rfl) (puO (by (intro w hSw; (try dsimp only at hSw); go_simp))) ?_
  simp only [Act.put, pA, pZ, pS]
  refine tkO 4 (.int .i64 12) (by simp only [gT, gZ, gS]; rfl) (y_int (w.heap.size + 1) 0 _ (fun V hV => (hV.2.1.cell 0).trans rfl) rfl) ?_
  simp only [Act.put, pA, pZ, pS]
  refine tkO 5 (.bool true) (by simp only [gT, gZ, gS]; rfl) (puO (by (intro w hSw; (try dsimp only at hSw); go_simp))) ?_
  simp only [Act.put, pA, pZ, pS]
  refine tkO 6 (.pointer (some ⟨w.heap.size + 1, 1, none⟩)) (by simp only [gT, gZ, gS]; rfl) (puO (by (intro w hSw; (try dsimp only at hSw); go_simp))) ?_
  simp only [Act.put, pA, pZ, pS]
  refine tkO 7 (.int .i64 (rd : Nat)) (by simp only [gT, gZ, gS]; rfl) (y_int (w.heap.size + 1) 1 _ (fun V hV => (hV.2.1.cell 1).trans rfl) rfl) ?_
  simp only [Act.put, pA, pZ, pS]
  refine tkO 8 (.agg (A6.cells ⟨1, A, 4, true, (rd : Nat), 0⟩)) (by simp only [gT, gZ, gS]; rfl) (puO (by (intro w hSw; (try dsimp only at hSw); go_simp <;> rfl))) ?_
  simp only [Act.put, pA, pZ, pS]
  refine skO 9 (by simp only [gT, gZ, gS]; rfl) (fun K hK => ?_)
  rw [if_pos (by rfl)]
  (with_reducible refine s_h (w.heap.size + 2) _ h hq ?_ ?_ ?_)
  · exact rfl
  · exact rfl
  intro V2 hq2 ho
  replace hr := hHeld.1.only ho (by omega)
  replace hi := hHeld.2.1.only ho (by omega)
  replace ha := ha.only ho (by omega)
  replace hb := ho.bel _ _ (by omega) hHeld.2.2
  clear hHeld
  refine hK.out _ _ ?_ (fun hHeld => ?_)
  · exact ⟨hr, hi, hb⟩
  clear hK K
  refine skO 10 (by simp only [gT, gZ, gS]; rfl) (fun K hK => ?_)
  rw [if_pos (by rfl)]
  (with_reducible refine s_a (w.heap.size + 3) _ ⟨1, A, 4, true, (rd : Nat), 0⟩ ha ?_ ?_ ?_)
  · exact rfl
  · exact rfl
  intro V3 ha2 ho
  replace hr := hr.only ho (by omega)
  replace hi := hi.only ho (by omega)
  replace hq2 := hq2.only ho (by omega)
  replace hb := ho.bel _ _ (by omega) hb
  refine hK.out _ _ ?_ (fun hHeld => ?_)
  · exact ⟨hr, hi, hb⟩
  clear hK K
  refine wpAnyH_done (by kernel_rfl) ?_ _
  go_wp2
  refine bodyPost_ret (results_two_rows Tryd.results24 _ _ (w.heap.size + 2) (w.heap.size + 3) _ _ _ _ _ _ rfl hq2 Tryd.underlying31 rfl size_hart rfl ha2 Tryd.underlying33 rfl size_acc) rfl ?_
  exact ⟨rfl, hb⟩

set_option maxHeartbeats 1000000 in
theorem load_12no (h : H) (ok : h.Ok) (rd s1 s2 : Nat) (im cs : Int) (h1 : s1 < 32) (h2 : s2 < 32) (A : Nat) (hA : (h.x s1 + immN im) % 4294967296 = A) (ht : ¬ A % 4 = 0) (w : World) (hV : WidAt w) :
    Calls Tryd.prog 24 #[.agg h.cells, .agg (I6.cells ⟨12, (rd : Nat), (s1 : Nat), (s2 : Nat), im, cs⟩)] w fun e w' => e = .returned (.tuple #[.agg (trapH h 4 A).cells, .agg (A6.cells noA)]) ∧ Below w.heap.size w w' := by
  have b1 : (0 : Int) ≤ s1 := by omega
  have b2 : (s1 : Int) < 32 := by omega
  have b3 : (0 : Int) ≤ s2 := by omega
  have b4 : (s2 : Int) < 32 := by omega
  have hA1 : (((h.x s1 : Nat) : Int) + im) % 4294967296 = (A : Int) := by have := immN_cast im; omega
  have hA2 : (((h.x s1 : Nat) : Int) + im % 4294967296) % 4294967296 = (A : Int) := by have := immN_cast im; omega
  have HV := hide hV
  clear hA hV
  have t0 : ((A : Int) % 4 != 0) = true := by simp; omega
  clear ht
  have HT := hide (fun w => trap_any h ok 4 A (by decide) w)
  rw [show (((4 : Nat) : Int)) = 4 from rfl] at HT
  go_enter Tryd.func24, Tryd.ntmps24
  go_wp2_with (first | ((with_reducible refine bx_h w.heap.size h ?_ ?_ ?_); exact rfl; exact rfl; intro W hr hb hz) | ((with_reducible refine bx_i (w.heap.size + 1) ⟨12, (rd : Nat), (s1 : Nat), (s2 : Nat), im, cs⟩ ?_ ?_ ?_); exact hz.out; exact rfl; intro W hi hb' hz'; obtain ⟨hr, hb⟩ := an1 hz hb' hr hb; replace hz := hz') | ((with_reducible refine al_h (w.heap.size + 2) ?_ ?_); exact hz.out; intro W hq hb' hz'; obtain ⟨hr, hi, hb⟩ := an2 hz hb' hr hi hb; replace hz := hz') | ((with_reducible refine al_a (w.heap.size + 3) ?_ ?_); exact hz.out; intro W ha hb' hz'; obtain ⟨hr, hi, hq, hb⟩ := an3 hz hb' hr hi hq hb; replace hz := hz'))
  refine wp_region_held_drew (S := (fun V => RowAt V w.heap.size h.cells 31 ∧ RowAt V (w.heap.size + 1) (I6.cells ⟨12, (rd : Nat), (s1 : Nat), (s2 : Nat), im, cs⟩) 61 ∧ Below w.heap.size w V)) (by kernel_rfl) ?_ (fun hHeld => ?_)
  · exact ⟨hr.dr, hi.dr, hb.drew⟩
  replace hq := hq.dr
  replace ha := ha.dr
  refine tkO 0 (.pointer (some ⟨w.heap.size + 1, 2, none⟩)) (by simp only [gT, gZ]; rfl) (puO (by (intro w hSw; (try dsimp only at hSw); go_simp))) ?_
  simp only [Act.put, pA, pZ, pS]
  refine tkO 1 (.int .i64 (s1 : Nat)) (by simp only [gT, gZ, gS]; rfl) (y_int (w.heap.size + 1) 2 _ (fun V hV => (hV.2.1.cell 2).trans rfl) rfl) ?_
  simp only [Act.put, pA, pZ, pS]
  refine tkO 2 (.pointer (some ⟨w.heap.size, 1, none⟩)) (by simp only [gT, gZ, gS]; rfl) (puO (by (intro w hSw; (try dsimp only at hSw); go_simp))) ?_
  simp only [Act.put, pA, pZ, pS]
  refine tkO 3 (.pointer (some ⟨w.heap.size, 1 + s1, none⟩)) (by simp only [gT, gZ, gS]; rfl) (puO (by (intro w hSw; (try dsimp only at hSw); go_simp))) ?_
  simp only [Act.put, pA, pZ, pS]
  refine tkO 4 (.int .u32 (h.x s1 : Nat)) (by simp only [gT, gZ, gS]; rfl) (y_word w.heap.size (1 + s1) _ (fun V hV => (hV.1.cell _).trans (h.cell_x s1 h1)) rfl) ?_
  simp only [Act.put, pA, pZ, pS]
  refine tkO 5 (.pointer (some ⟨w.heap.size + 1, 4, none⟩)) (by simp only [gT, gZ, gS]; rfl) (puO (by (intro w hSw; (try dsimp only at hSw); go_simp))) ?_
  simp only [Act.put, pA, pZ, pS]
  refine tkO 6 (.int .i64 im) (by simp only [gT, gZ, gS]; rfl) (y_int (w.heap.size + 1) 4 _ (fun V hV => (hV.2.1.cell 4).trans rfl) rfl) ?_
  simp only [Act.put, pA, pZ, pS]
  refine tkO 7 (.int .u32 (im % 4294967296)) (by simp only [gT, gZ, gS]; rfl) (puO (by (intro w hSw; (try dsimp only at hSw); go_simp <;> first | rfl | exact IntKind.wrap_u32 _))) ?_
  simp only [Act.put, pA, pZ, pS]
  refine tkO 8 (.int .u32 (A : Nat)) (by simp only [gT, gZ, gS]; rfl) (puO (by (intro w hSw; (try dsimp only at hSw); go_simp <;> first | exact hA2 | exact hA1 | (rw [IntKind.wrap_u32]; omega)))) ?_
  simp only [Act.put, pA, pZ, pS]
  refine tkO 9 (.pointer (some ⟨w.heap.size + 1, 0, none⟩)) (by simp only [gT, gZ, gS]; rfl) (puO (by (intro w hSw; (try dsimp only at hSw); go_simp))) ?_
  simp only [Act.put, pA, pZ, pS]
  refine tkO 10 (.int .i64 12) (by simp only [gT, gZ, gS]; rfl) (y_int (w.heap.size + 1) 0 _ (fun V hV => (hV.2.1.cell 0).trans rfl) rfl) ?_
  simp only [Act.put, pA, pZ, pS]
  refine tkO 11 (.int .i64 2) (by simp only [gT, gZ, gS]; rfl) (puO (by (intro w hSw; (try dsimp only at hSw); go_simp <;> first | rfl | decide))) ?_
  simp only [Act.put, pA, pZ, pS]
  refine tkO 12 (.pointer (some ⟨2, 2, none⟩)) (by simp only [gT, gZ, gS]; rfl) (puO (by (intro w hSw; (try dsimp only at hSw); go_simp))) ?_
  simp only [Act.put, pA, pZ, pS]
  refine tkO 13 (.int .i64 4) (by simp only [gT, gZ, gS]; rfl) (y_int 2 2 _ (fun V hV => (HV.out.below hV.2.2) 2 (by decide)) rfl) ?_
  simp only [Act.put, pA, pZ, pS]
  refine tkO 14 (.int .u32 (A : Nat)) (by simp only [gT, gZ, gS]; rfl) (puO (by (intro w hSw; (try dsimp only at hSw); go_simp))) ?_
  simp only [Act.put, pA, pZ, pS]
  refine tkO 15 (.int .i64 4) (by simp only [gT, gZ, gS]; rfl) (puO (by (intro w hSw; (try dsimp only at hSw); go_simp))) ?_
  simp only [Act.put, pA, pZ, pS]
  refine wpAnyH_done (by kernel_rfl) ?_ _
  clear hHeld
  replace hr := hr.dr
  replace hi := hi.dr
  replace hb := hb.drew
  go_wp2_with (first | ((with_reducible refine ld_h w.heap.size _ hr ?_ ?_); exact rfl) | (go_at_call 22; refine (HT.out _).mono ?_; rintro e W ⟨rfl, hbc⟩; obtain ⟨hr, hi, hq, ha, hb⟩ := bl4 hbc hr hi hq ha hb) | ((with_reducible refine st_h (w.heap.size + 2) _ (trapH h 4 A) hq ?_ ?_ ?_); exact rfl; exact rfl; intro W hnew ho; obtain ⟨hr, hi, ha, hb⟩ := on3 ho hr hi ha hb; replace hq := hnew) | ((with_reducible refine st_a (w.heap.size + 3) _ noA ha ?_ ?_ ?_); exact rfl; exact rfl; intro W hnew ho; obtain ⟨hr, hi, hq, hb⟩ := on3 ho hr hi hq hb; replace ha := hnew))
  refine bodyPost_ret (results_two_rows Tryd.results24 _ _ (w.heap.size + 2) (w.heap.size + 3) _ _ _ _ _ _ rfl hq Tryd.underlying31 rfl size_hart rfl ha Tryd.underlying33 rfl size_acc) rfl ?_
  exact ⟨rfl, hb⟩

set_option maxHeartbeats 1000000 in
theorem load_13 (h : H) (ok : h.Ok) (rd s1 s2 : Nat) (im cs : Int) (h1 : s1 < 32) (h2 : s2 < 32) (A : Nat) (hA : (h.x s1 + immN im) % 4294967296 = A)  (w : World) (hV : WidAt w) :
    Calls Tryd.prog 24 #[.agg h.cells, .agg (I6.cells ⟨13, (rd : Nat), (s1 : Nat), (s2 : Nat), im, cs⟩)] w fun e w' => e = .returned (.tuple #[.agg (h).cells, .agg (A6.cells ⟨1, A, 1, false, (rd : Nat), 0⟩)]) ∧ Below w.heap.size w w' := by
  have b1 : (0 : Int) ≤ s1 := by omega
  have b2 : (s1 : Int) < 32 := by omega
  have b3 : (0 : Int) ≤ s2 := by omega
  have b4 : (s2 : Int) < 32 := by omega
  have hA1 : (((h.x s1 : Nat) : Int) + im) % 4294967296 = (A : Int) := by have := immN_cast im; omega
  have hA2 : (((h.x s1 : Nat) : Int) + im % 4294967296) % 4294967296 = (A : Int) := by have := immN_cast im; omega
  have HV := hide hV
  clear hA hV
  have t0 : ((A : Int) % 1 != 0) = false := by simp
  go_enter Tryd.func24, Tryd.ntmps24
  go_wp2_with (first | ((with_reducible refine bx_h w.heap.size h ?_ ?_ ?_); exact rfl; exact rfl; intro W hr hb hz) | ((with_reducible refine bx_i (w.heap.size + 1) ⟨13, (rd : Nat), (s1 : Nat), (s2 : Nat), im, cs⟩ ?_ ?_ ?_); exact hz.out; exact rfl; intro W hi hb' hz'; obtain ⟨hr, hb⟩ := an1 hz hb' hr hb; replace hz := hz') | ((with_reducible refine al_h (w.heap.size + 2) ?_ ?_); exact hz.out; intro W hq hb' hz'; obtain ⟨hr, hi, hb⟩ := an2 hz hb' hr hi hb; replace hz := hz') | ((with_reducible refine al_a (w.heap.size + 3) ?_ ?_); exact hz.out; intro W ha hb' hz'; obtain ⟨hr, hi, hq, hb⟩ := an3 hz hb' hr hi hq hb; replace hz := hz'))
  refine wp_region_held_drew (S := (fun V => RowAt V w.heap.size h.cells 31 ∧ RowAt V (w.heap.size + 1) (I6.cells ⟨13, (rd : Nat), (s1 : Nat), (s2 : Nat), im, cs⟩) 61 ∧ Below w.heap.size w V)) (by kernel_rfl) ?_ (fun hHeld => ?_)
  · exact ⟨hr.dr, hi.dr, hb.drew⟩
  replace hq := hq.dr
  replace ha := ha.dr
  refine tkO 0 (.pointer (some ⟨w.heap.size + 1, 2, none⟩)) (by simp only [gT, gZ]; rfl) (puO (by (intro w hSw; (try dsimp only at hSw); go_simp))) ?_
  simp only [Act.put, pA, pZ, pS]
  refine tkO 1 (.int .i64 (s1 : Nat)) (by simp only [gT, gZ, gS]; rfl) (y_int (w.heap.size + 1) 2 _ (fun V hV => (hV.2.1.cell 2).trans rfl) rfl) ?_
  simp only [Act.put, pA, pZ, pS]
  refine tkO 2 (.pointer (some ⟨w.heap.size, 1, none⟩)) (by simp only [gT, gZ, gS]; rfl) (puO (by (intro w hSw; (try dsimp only at hSw); go_simp))) ?_
  simp only [Act.put, pA, pZ, pS]
  refine tkO 3 (.pointer (some ⟨w.heap.size, 1 + s1, none⟩)) (by simp only [gT, gZ, gS]; rfl) (puO (by (intro w hSw; (try dsimp only at hSw); go_simp))) ?_
  simp only [Act.put, pA, pZ, pS]
  refine tkO 4 (.int .u32 (h.x s1 : Nat)) (by simp only [gT, gZ, gS]; rfl) (y_word w.heap.size (1 + s1) _ (fun V hV => (hV.1.cell _).trans (h.cell_x s1 h1)) rfl) ?_
  simp only [Act.put, pA, pZ, pS]
  refine tkO 5 (.pointer (some ⟨w.heap.size + 1, 4, none⟩)) (by simp only [gT, gZ, gS]; rfl) (puO (by (intro w hSw; (try dsimp only at hSw); go_simp))) ?_
  simp only [Act.put, pA, pZ, pS]
  refine tkO 6 (.int .i64 im) (by simp only [gT, gZ, gS]; rfl) (y_int (w.heap.size + 1) 4 _ (fun V hV => (hV.2.1.cell 4).trans rfl) rfl) ?_
  simp only [Act.put, pA, pZ, pS]
  refine tkO 7 (.int .u32 (im % 4294967296)) (by simp only [gT, gZ, gS]; rfl) (puO (by (intro w hSw; (try dsimp only at hSw); go_simp <;> first | rfl | exact IntKind.wrap_u32 _))) ?_
  simp only [Act.put, pA, pZ, pS]
  refine tkO 8 (.int .u32 (A : Nat)) (by simp only [gT, gZ, gS]; rfl) (puO (by (intro w hSw; (try dsimp only at hSw); go_simp <;> first | exact hA2 | exact hA1 | (rw [IntKind.wrap_u32]; omega)))) ?_
  simp only [Act.put, pA, pZ, pS]
  refine tkO 9 (.pointer (some ⟨w.heap.size + 1, 0, none⟩)) (by simp only [gT, gZ, gS]; rfl) (puO (by (intro w hSw; (try dsimp only at hSw); go_simp))) ?_
  simp only [Act.put, pA, pZ, pS]
  refine tkO 10 (.int .i64 13) (by simp only [gT, gZ, gS]; rfl) (y_int (w.heap.size + 1) 0 _ (fun V hV => (hV.2.1.cell 0).trans rfl) rfl) ?_
  simp only [Act.put, pA, pZ, pS]
  refine tkO 11 (.int .i64 3) (by simp only [gT, gZ, gS]; rfl) (puO (by (intro w hSw; (try dsimp only at hSw); go_simp <;> first | rfl | decide))) ?_
  simp only [Act.put, pA, pZ, pS]
  refine tkO 12 (.pointer (some ⟨2, 3, none⟩)) (by simp only [gT, gZ, gS]; rfl) (puO (by (intro w hSw; (try dsimp only at hSw); go_simp))) ?_
  simp only [Act.put, pA, pZ, pS]
  refine tkO 13 (.int .i64 1) (by simp only [gT, gZ, gS]; rfl) (y_int 2 3 _ (fun V hV => (HV.out.below hV.2.2) 3 (by decide)) rfl) ?_
  simp only [Act.put, pA, pZ, pS]
  refine tkO 14 (.int .u32 (A : Nat)) (by simp only [gT, gZ, gS]; rfl) (puO (by (intro w hSw; (try dsimp only at hSw); go_simp))) ?_
  simp only [Act.put, pA, pZ, pS]
  refine tkO 15 (.int .i64 1) (by simp only [gT, gZ, gS]; rfl) (puO (by (intro w hSw; (try dsimp only at hSw); go_simp))) ?_
  simp only [Act.put, pA, pZ, pS]
  refine wpAnyH_done (by kernel_rfl) ?_ _
  clear hHeld
  replace hr := hr.dr
  replace hi := hi.dr
  replace hb := hb.drew
  go_wp2_with (first | ((with_reducible refine ld_h w.heap.size _ hr ?_ ?_); exact rfl))
  refine wp_region_held_drew (S := (fun V => RowAt V w.heap.size h.cells 31 ∧ RowAt V (w.heap.size + 1) (I6.cells ⟨13, (rd : Nat), (s1 : Nat), (s2 : Nat), im, cs⟩) 61 ∧ Below w.heap.size w V)) (by kernel_rfl) ?_ (fun hHeld => ?_)
  · exact ⟨hr.dr, hi.dr, hb.drew⟩
  replace hq := hq.dr
  replace ha := ha.dr
  refine tkO 0 (.agg h.cells) (by simp only [gT, gZ]; rfl) (y_h w.heap.size h (fun V hV => hV.1) rfl) ?_
  simp only [Act.put, pA, pZ, pS]
  refine tkO 1 (.int .u32 (A : Nat)) (by simp only [gT, gZ, gS]; rfl) (puO (by (intro w hSw; (try dsimp only at hSw); go_simp))) ?_
  simp only [Act.put, pA, pZ, pS]
  refine tkO 2 (.int .i64 1) (by simp only [gT, gZ, gS]; rfl) (puO (by (intro w hSw; (try dsimp only at hSw); go_simp))) ?_
  simp only [Act.put, pA, pZ, pS]
  refine tkO 3 (.pointer (some ⟨w.heap.size + 1, 0, none⟩)) (by simp only [gT, gZ, gS]; rfl) (puO (by (intro w hSw; (try dsimp only at hSw); go_simp))) ?_
  simp only [Act.put, pA, pZ, pS]
  refine tkO 4 (.int .i64 13) (by simp only [gT, gZ, gS]; rfl) (y_int (w.heap.size + 1) 0 _ (fun V hV => (hV.2.1.cell 0).trans rfl) rfl) ?_
  simp only [Act.put, pA, pZ, pS]
  refine tkO 5 (.bool false) (by simp only [gT, gZ, gS]; rfl) (puO (by (intro w hSw; (try dsimp only at hSw); go_simp))) ?_
  simp only [Act.put, pA, pZ, pS]
  refine tkO 6 (.pointer (some ⟨w.heap.size + 1, 1, none⟩)) (by simp only [gT, gZ, gS]; rfl) (puO (by (intro w hSw; (try dsimp only at hSw); go_simp))) ?_
  simp only [Act.put, pA, pZ, pS]
  refine tkO 7 (.int .i64 (rd : Nat)) (by simp only [gT, gZ, gS]; rfl) (y_int (w.heap.size + 1) 1 _ (fun V hV => (hV.2.1.cell 1).trans rfl) rfl) ?_
  simp only [Act.put, pA, pZ, pS]
  refine tkO 8 (.agg (A6.cells ⟨1, A, 1, false, (rd : Nat), 0⟩)) (by simp only [gT, gZ, gS]; rfl) (puO (by (intro w hSw; (try dsimp only at hSw); go_simp <;> rfl))) ?_
  simp only [Act.put, pA, pZ, pS]
  refine skO 9 (by simp only [gT, gZ, gS]; rfl) (fun K hK => ?_)
  rw [if_pos (by rfl)]
  (with_reducible refine s_h (w.heap.size + 2) _ h hq ?_ ?_ ?_)
  · exact rfl
  · exact rfl
  intro V2 hq2 ho
  replace hr := hHeld.1.only ho (by omega)
  replace hi := hHeld.2.1.only ho (by omega)
  replace ha := ha.only ho (by omega)
  replace hb := ho.bel _ _ (by omega) hHeld.2.2
  clear hHeld
  refine hK.out _ _ ?_ (fun hHeld => ?_)
  · exact ⟨hr, hi, hb⟩
  clear hK K
  refine skO 10 (by simp only [gT, gZ, gS]; rfl) (fun K hK => ?_)
  rw [if_pos (by rfl)]
  (with_reducible refine s_a (w.heap.size + 3) _ ⟨1, A, 1, false, (rd : Nat), 0⟩ ha ?_ ?_ ?_)
  · exact rfl
  · exact rfl
  intro V3 ha2 ho
  replace hr := hr.only ho (by omega)
  replace hi := hi.only ho (by omega)
  replace hq2 := hq2.only ho (by omega)
  replace hb := ho.bel _ _ (by omega) hb
  refine hK.out _ _ ?_ (fun hHeld => ?_)
  · exact ⟨hr, hi, hb⟩
  clear hK K
  refine wpAnyH_done (by kernel_rfl) ?_ _
  go_wp2
  refine bodyPost_ret (results_two_rows Tryd.results24 _ _ (w.heap.size + 2) (w.heap.size + 3) _ _ _ _ _ _ rfl hq2 Tryd.underlying31 rfl size_hart rfl ha2 Tryd.underlying33 rfl size_acc) rfl ?_
  exact ⟨rfl, hb⟩

set_option maxHeartbeats 1000000 in
theorem load_14 (h : H) (ok : h.Ok) (rd s1 s2 : Nat) (im cs : Int) (h1 : s1 < 32) (h2 : s2 < 32) (A : Nat) (hA : (h.x s1 + immN im) % 4294967296 = A) (ht :  A % 2 = 0) (w : World) (hV : WidAt w) :
    Calls Tryd.prog 24 #[.agg h.cells, .agg (I6.cells ⟨14, (rd : Nat), (s1 : Nat), (s2 : Nat), im, cs⟩)] w fun e w' => e = .returned (.tuple #[.agg (h).cells, .agg (A6.cells ⟨1, A, 2, false, (rd : Nat), 0⟩)]) ∧ Below w.heap.size w w' := by
  have b1 : (0 : Int) ≤ s1 := by omega
  have b2 : (s1 : Int) < 32 := by omega
  have b3 : (0 : Int) ≤ s2 := by omega
  have b4 : (s2 : Int) < 32 := by omega
  have hA1 : (((h.x s1 : Nat) : Int) + im) % 4294967296 = (A : Int) := by have := immN_cast im; omega
  have hA2 : (((h.x s1 : Nat) : Int) + im % 4294967296) % 4294967296 = (A : Int) := by have := immN_cast im; omega
  have HV := hide hV
  clear hA hV
  have t0 : ((A : Int) % 2 != 0) = false := by simp; omega
  clear ht
  go_enter Tryd.func24, Tryd.ntmps24
  go_wp2_with (first | ((with_reducible refine bx_h w.heap.size h ?_ ?_ ?_); exact rfl; exact rfl; intro W hr hb hz) | ((with_reducible refine bx_i (w.heap.size + 1) ⟨14, (rd : Nat), (s1 : Nat), (s2 : Nat), im, cs⟩ ?_ ?_ ?_); exact hz.out; exact rfl; intro W hi hb' hz'; obtain ⟨hr, hb⟩ := an1 hz hb' hr hb; replace hz := hz') | ((with_reducible refine al_h (w.heap.size + 2) ?_ ?_); exact hz.out; intro W hq hb' hz'; obtain ⟨hr, hi, hb⟩ := an2 hz hb' hr hi hb; replace hz := hz') | ((with_reducible refine al_a (w.heap.size + 3) ?_ ?_); exact hz.out; intro W ha hb' hz'; obtain ⟨hr, hi, hq, hb⟩ := an3 hz hb' hr hi hq hb; replace hz := hz'))
  refine wp_region_held_drew (S := (fun V => RowAt V w.heap.size h.cells 31 ∧ RowAt V (w.heap.size + 1) (I6.cells ⟨14, (rd : Nat), (s1 : Nat), (s2 : Nat), im, cs⟩) 61 ∧ Below w.heap.size w V)) (by kernel_rfl) ?_ (fun hHeld => ?_)
  · exact ⟨hr.dr, hi.dr, hb.drew⟩
  replace hq := hq.dr
  replace ha := ha.dr
  refine tkO 0 (.pointer (some ⟨w.heap.size + 1, 2, none⟩)) (by simp only [gT, gZ]; rfl) (puO (by (intro w hSw; (try dsimp only at hSw); go_simp))) ?_
  simp only [Act.put, pA, pZ, pS]
  refine tkO 1 (.int .i64 (s1 : Nat)) (by simp only [gT, gZ, gS]; rfl) (y_int (w.heap.size + 1) 2 _ (fun V hV => (hV.2.1.cell 2).trans rfl) rfl) ?_
  simp only [Act.put, pA, pZ, pS]
  refine tkO 2 (.pointer (some ⟨w.heap.size, 1, none⟩)) (by simp only [gT, gZ, gS]; rfl) (puO (by (intro w hSw; (try dsimp only at hSw); go_simp))) ?_
  simp only [Act.put, pA, pZ, pS]
  refine tkO 3 (.pointer (some ⟨w.heap.size, 1 + s1, none⟩)) (by simp only [gT, gZ, gS]; rfl) (puO (by (intro w hSw; (try dsimp only at hSw); go_simp))) ?_
  simp only [Act.put, pA, pZ, pS]
  refine tkO 4 (.int .u32 (h.x s1 : Nat)) (by simp only [gT, gZ, gS]; rfl) (y_word w.heap.size (1 + s1) _ (fun V hV => (hV.1.cell _).trans (h.cell_x s1 h1)) rfl) ?_
  simp only [Act.put, pA, pZ, pS]
  refine tkO 5 (.pointer (some ⟨w.heap.size + 1, 4, none⟩)) (by simp only [gT, gZ, gS]; rfl) (puO (by (intro w hSw; (try dsimp only at hSw); go_simp))) ?_
  simp only [Act.put, pA, pZ, pS]
  refine tkO 6 (.int .i64 im) (by simp only [gT, gZ, gS]; rfl) (y_int (w.heap.size + 1) 4 _ (fun V hV => (hV.2.1.cell 4).trans rfl) rfl) ?_
  simp only [Act.put, pA, pZ, pS]
  refine tkO 7 (.int .u32 (im % 4294967296)) (by simp only [gT, gZ, gS]; rfl) (puO (by (intro w hSw; (try dsimp only at hSw); go_simp <;> first | rfl | exact IntKind.wrap_u32 _))) ?_
  simp only [Act.put, pA, pZ, pS]
  refine tkO 8 (.int .u32 (A : Nat)) (by simp only [gT, gZ, gS]; rfl) (puO (by (intro w hSw; (try dsimp only at hSw); go_simp <;> first | exact hA2 | exact hA1 | (rw [IntKind.wrap_u32]; omega)))) ?_
  simp only [Act.put, pA, pZ, pS]
  refine tkO 9 (.pointer (some ⟨w.heap.size + 1, 0, none⟩)) (by simp only [gT, gZ, gS]; rfl) (puO (by (intro w hSw; (try dsimp only at hSw); go_simp))) ?_
  simp only [Act.put, pA, pZ, pS]
  refine tkO 10 (.int .i64 14) (by simp only [gT, gZ, gS]; rfl) (y_int (w.heap.size + 1) 0 _ (fun V hV => (hV.2.1.cell 0).trans rfl) rfl) ?_
  simp only [Act.put, pA, pZ, pS]
  refine tkO 11 (.int .i64 4) (by simp only [gT, gZ, gS]; rfl) (puO (by (intro w hSw; (try dsimp only at hSw); go_simp <;> first | rfl | decide))) ?_
  simp only [Act.put, pA, pZ, pS]
  refine tkO 12 (.pointer (some ⟨2, 4, none⟩)) (by simp only [gT, gZ, gS]; rfl) (puO (by (intro w hSw; (try dsimp only at hSw); go_simp))) ?_
  simp only [Act.put, pA, pZ, pS]
  refine tkO 13 (.int .i64 2) (by simp only [gT, gZ, gS]; rfl) (y_int 2 4 _ (fun V hV => (HV.out.below hV.2.2) 4 (by decide)) rfl) ?_
  simp only [Act.put, pA, pZ, pS]
  refine tkO 14 (.int .u32 (A : Nat)) (by simp only [gT, gZ, gS]; rfl) (puO (by (intro w hSw; (try dsimp only at hSw); go_simp))) ?_
  simp only [Act.put, pA, pZ, pS]
  refine tkO 15 (.int .i64 2) (by simp only [gT, gZ, gS]; rfl) (puO (by (intro w hSw; (try dsimp only at hSw); go_simp))) ?_
  simp only [Act.put, pA, pZ, pS]
  refine wpAnyH_done (by kernel_rfl) ?_ _
  clear hHeld
  replace hr := hr.dr
  replace hi := hi.dr
  replace hb := hb.drew
  go_wp2_with (first | ((with_reducible refine ld_h w.heap.size _ hr ?_ ?_); exact rfl))
  refine wp_region_held_drew (S := (fun V => RowAt V w.heap.size h.cells 31 ∧ RowAt V (w.heap.size + 1) (I6.cells ⟨14, (rd : Nat), (s1 : Nat), (s2 : Nat), im, cs⟩) 61 ∧ Below w.heap.size w V)) (by kernel_rfl) ?_ (fun hHeld => ?_)
  · exact ⟨hr.dr, hi.dr, hb.drew⟩
  replace hq := hq.dr
  replace ha := ha.dr
  refine tkO 0 (.agg h.cells) (by simp only [gT, gZ]; rfl) (y_h w.heap.size h (fun V hV => hV.1) rfl) ?_
  simp only [Act.put, pA, pZ, pS]
  refine tkO 1 (.int .u32 (A : Nat)) (by simp only [gT, gZ, gS]; rfl) (puO (by (intro w hSw; (try dsimp only at hSw); go_simp))) ?_
  simp only [Act.put, pA, pZ, pS]
  refine tkO 2 (.int .i64 2) (by simp only [gT, gZ, gS]; rfl) (puO (by (intro w hSw; (try dsimp only at hSw); go_simp))) ?_
  simp only [Act.put, pA, pZ, pS]
  refine tkO 3 (.pointer (some ⟨w.heap.size + 1, 0, none⟩)) (by simp only [gT, gZ, gS]; rfl) (puO (by (intro w hSw; (try dsimp only at hSw); go_simp))) ?_
  simp only [Act.put, pA, pZ, pS]
  refine tkO 4 (.int .i64 14) (by simp only [gT, gZ, gS]; rfl) (y_int (w.heap.size + 1) 0 _ (fun V hV => (hV.2.1.cell 0).trans rfl) rfl) ?_
  simp only [Act.put, pA, pZ, pS]
  refine tkO 5 (.bool false) (by simp only [gT, gZ, gS]; rfl) (puO (by (intro w hSw; (try dsimp only at hSw); go_simp))) ?_
  simp only [Act.put, pA, pZ, pS]
  refine tkO 6 (.pointer (some ⟨w.heap.size + 1, 1, none⟩)) (by simp only [gT, gZ, gS]; rfl) (puO (by (intro w hSw; (try dsimp only at hSw); go_simp))) ?_
  simp only [Act.put, pA, pZ, pS]
  refine tkO 7 (.int .i64 (rd : Nat)) (by simp only [gT, gZ, gS]; rfl) (y_int (w.heap.size + 1) 1 _ (fun V hV => (hV.2.1.cell 1).trans rfl) rfl) ?_
  simp only [Act.put, pA, pZ, pS]
  refine tkO 8 (.agg (A6.cells ⟨1, A, 2, false, (rd : Nat), 0⟩)) (by simp only [gT, gZ, gS]; rfl) (puO (by (intro w hSw; (try dsimp only at hSw); go_simp <;> rfl))) ?_
  simp only [Act.put, pA, pZ, pS]
  refine skO 9 (by simp only [gT, gZ, gS]; rfl) (fun K hK => ?_)
  rw [if_pos (by rfl)]
  (with_reducible refine s_h (w.heap.size + 2) _ h hq ?_ ?_ ?_)
  · exact rfl
  · exact rfl
  intro V2 hq2 ho
  replace hr := hHeld.1.only ho (by omega)
  replace hi := hHeld.2.1.only ho (by omega)
  replace ha := ha.only ho (by omega)
  replace hb := ho.bel _ _ (by omega) hHeld.2.2
  clear hHeld
  refine hK.out _ _ ?_ (fun hHeld => ?_)
  · exact ⟨hr, hi, hb⟩
  clear hK K
  refine skO 10 (by simp only [gT, gZ, gS]; rfl) (fun K hK => ?_)
  rw [if_pos (by rfl)]
  (with_reducible refine s_a (w.heap.size + 3) _ ⟨1, A, 2, false, (rd : Nat), 0⟩ ha ?_ ?_ ?_)
  · exact rfl
  · exact rfl
  intro V3 ha2 ho
  replace hr := hr.only ho (by omega)
  replace hi := hi.only ho (by omega)
  replace hq2 := hq2.only ho (by omega)
  replace hb := ho.bel _ _ (by omega) hb
  refine hK.out _ _ ?_ (fun hHeld => ?_)
  · exact ⟨hr, hi, hb⟩
  clear hK K
  refine wpAnyH_done (by kernel_rfl) ?_ _
  go_wp2
  refine bodyPost_ret (results_two_rows Tryd.results24 _ _ (w.heap.size + 2) (w.heap.size + 3) _ _ _ _ _ _ rfl hq2 Tryd.underlying31 rfl size_hart rfl ha2 Tryd.underlying33 rfl size_acc) rfl ?_
  exact ⟨rfl, hb⟩

set_option maxHeartbeats 1000000 in
theorem load_14no (h : H) (ok : h.Ok) (rd s1 s2 : Nat) (im cs : Int) (h1 : s1 < 32) (h2 : s2 < 32) (A : Nat) (hA : (h.x s1 + immN im) % 4294967296 = A) (ht : ¬ A % 2 = 0) (w : World) (hV : WidAt w) :
    Calls Tryd.prog 24 #[.agg h.cells, .agg (I6.cells ⟨14, (rd : Nat), (s1 : Nat), (s2 : Nat), im, cs⟩)] w fun e w' => e = .returned (.tuple #[.agg (trapH h 4 A).cells, .agg (A6.cells noA)]) ∧ Below w.heap.size w w' := by
  have b1 : (0 : Int) ≤ s1 := by omega
  have b2 : (s1 : Int) < 32 := by omega
  have b3 : (0 : Int) ≤ s2 := by omega
  have b4 : (s2 : Int) < 32 := by omega
  have hA1 : (((h.x s1 : Nat) : Int) + im) % 4294967296 = (A : Int) := by have := immN_cast im; omega
  have hA2 : (((h.x s1 : Nat) : Int) + im % 4294967296) % 4294967296 = (A : Int) := by have := immN_cast im; omega
  have HV := hide hV
  clear hA hV
  have t0 : ((A : Int) % 2 != 0) = true := by simp; omega
  clear ht
  have HT := hide (fun w => trap_any h ok 4 A (by decide) w)
  rw [show (((4 : Nat) : Int)) = 4 from rfl] at HT
  go_enter Tryd.func24, Tryd.ntmps24
  go_wp2_with (first | ((with_reducible refine bx_h w.heap.size h ?_ ?_ ?_); exact rfl; exact rfl; intro W hr hb hz) | ((with_reducible refine bx_i (w.heap.size + 1) ⟨14, (rd : Nat), (s1 : Nat), (s2 : Nat), im, cs⟩ ?_ ?_ ?_); exact hz.out; exact rfl; intro W hi hb' hz'; obtain ⟨hr, hb⟩ := an1 hz hb' hr hb; replace hz := hz') | ((with_reducible refine al_h (w.heap.size + 2) ?_ ?_); exact hz.out; intro W hq hb' hz'; obtain ⟨hr, hi, hb⟩ := an2 hz hb' hr hi hb; replace hz := hz') | ((with_reducible refine al_a (w.heap.size + 3) ?_ ?_); exact hz.out; intro W ha hb' hz'; obtain ⟨hr, hi, hq, hb⟩ := an3 hz hb' hr hi hq hb; replace hz := hz'))
  refine wp_region_held_drew (S := (fun V => RowAt V w.heap.size h.cells 31 ∧ RowAt V (w.heap.size + 1) (I6.cells ⟨14, (rd : Nat), (s1 : Nat), (s2 : Nat), im, cs⟩) 61 ∧ Below w.heap.size w V)) (by kernel_rfl) ?_ (fun hHeld => ?_)
  · exact ⟨hr.dr, hi.dr, hb.drew⟩
  replace hq := hq.dr
  replace ha := ha.dr
  refine tkO 0 (.pointer (some ⟨w.heap.size + 1, 2, none⟩)) (by simp only [gT, gZ]; rfl) (puO (by (intro w hSw; (try dsimp only at hSw); go_simp))) ?_
  simp only [Act.put, pA, pZ, pS]
  refine tkO 1 (.int .i64 (s1 : Nat)) (by simp only [gT, gZ, gS]; rfl) (y_int (w.heap.size + 1) 2 _ (fun V hV => (hV.2.1.cell 2).trans rfl) rfl) ?_
  simp only [Act.put, pA, pZ, pS]
  refine tkO 2 (.pointer (some ⟨w.heap.size, 1, none⟩)) (by simp only [gT, gZ, gS]; rfl) (puO (by (intro w hSw; (try dsimp only at hSw); go_simp))) ?_
  simp only [Act.put, pA, pZ, pS]
  refine tkO 3 (.pointer (some ⟨w.heap.size, 1 + s1, none⟩)) (by simp only [gT, gZ, gS]; rfl) (puO (by (intro w hSw; (try dsimp only at hSw); go_simp))) ?_
  simp only [Act.put, pA, pZ, pS]
  refine tkO 4 (.int .u32 (h.x s1 : Nat)) (by simp only [gT, gZ, gS]; rfl) (y_word w.heap.size (1 + s1) _ (fun V hV => (hV.1.cell _).trans (h.cell_x s1 h1)) rfl) ?_
  simp only [Act.put, pA, pZ, pS]
  refine tkO 5 (.pointer (some ⟨w.heap.size + 1, 4, none⟩)) (by simp only [gT, gZ, gS]; rfl) (puO (by (intro w hSw; (try dsimp only at hSw); go_simp))) ?_
  simp only [Act.put, pA, pZ, pS]
  refine tkO 6 (.int .i64 im) (by simp only [gT, gZ, gS]; rfl) (y_int (w.heap.size + 1) 4 _ (fun V hV => (hV.2.1.cell 4).trans rfl) rfl) ?_
  simp only [Act.put, pA, pZ, pS]
  refine tkO 7 (.int .u32 (im % 4294967296)) (by simp only [gT, gZ, gS]; rfl) (puO (by (intro w hSw; (try dsimp only at hSw); go_simp <;> first | rfl | exact IntKind.wrap_u32 _))) ?_
  simp only [Act.put, pA, pZ, pS]
  refine tkO 8 (.int .u32 (A : Nat)) (by simp only [gT, gZ, gS]; rfl) (puO (by (intro w hSw; (try dsimp only at hSw); go_simp <;> first | exact hA2 | exact hA1 | (rw [IntKind.wrap_u32]; omega)))) ?_
  simp only [Act.put, pA, pZ, pS]
  refine tkO 9 (.pointer (some ⟨w.heap.size + 1, 0, none⟩)) (by simp only [gT, gZ, gS]; rfl) (puO (by (intro w hSw; (try dsimp only at hSw); go_simp))) ?_
  simp only [Act.put, pA, pZ, pS]
  refine tkO 10 (.int .i64 14) (by simp only [gT, gZ, gS]; rfl) (y_int (w.heap.size + 1) 0 _ (fun V hV => (hV.2.1.cell 0).trans rfl) rfl) ?_
  simp only [Act.put, pA, pZ, pS]
  refine tkO 11 (.int .i64 4) (by simp only [gT, gZ, gS]; rfl) (puO (by (intro w hSw; (try dsimp only at hSw); go_simp <;> first | rfl | decide))) ?_
  simp only [Act.put, pA, pZ, pS]
  refine tkO 12 (.pointer (some ⟨2, 4, none⟩)) (by simp only [gT, gZ, gS]; rfl) (puO (by (intro w hSw; (try dsimp only at hSw); go_simp))) ?_
  simp only [Act.put, pA, pZ, pS]
  refine tkO 13 (.int .i64 2) (by simp only [gT, gZ, gS]; rfl) (y_int 2 4 _ (fun V hV => (HV.out.below hV.2.2) 4 (by decide)) rfl) ?_
  simp only [Act.put, pA, pZ, pS]
  refine tkO 14 (.int .u32 (A : Nat)) (by simp only [gT, gZ, gS]; rfl) (puO (by (intro w hSw; (try dsimp only at hSw); go_simp))) ?_
  simp only [Act.put, pA, pZ, pS]
  refine tkO 15 (.int .i64 2) (by simp only [gT, gZ, gS]; rfl) (puO (by (intro w hSw; (try dsimp only at hSw); go_simp))) ?_
  simp only [Act.put, pA, pZ, pS]
  refine wpAnyH_done (by kernel_rfl) ?_ _
  clear hHeld
  replace hr := hr.dr
  replace hi := hi.dr
  replace hb := hb.drew
  go_wp2_with (first | ((with_reducible refine ld_h w.heap.size _ hr ?_ ?_); exact rfl) | (go_at_call 22; refine (HT.out _).mono ?_; rintro e W ⟨rfl, hbc⟩; obtain ⟨hr, hi, hq, ha, hb⟩ := bl4 hbc hr hi hq ha hb) | ((with_reducible refine st_h (w.heap.size + 2) _ (trapH h 4 A) hq ?_ ?_ ?_); exact rfl; exact rfl; intro W hnew ho; obtain ⟨hr, hi, ha, hb⟩ := on3 ho hr hi ha hb; replace hq := hnew) | ((with_reducible refine st_a (w.heap.size + 3) _ noA ha ?_ ?_ ?_); exact rfl; exact rfl; intro W hnew ho; obtain ⟨hr, hi, hq, hb⟩ := on3 ho hr hi hq hb; replace ha := hnew))
  refine bodyPost_ret (results_two_rows Tryd.results24 _ _ (w.heap.size + 2) (w.heap.size + 3) _ _ _ _ _ _ rfl hq Tryd.underlying31 rfl size_hart rfl ha Tryd.underlying33 rfl size_acc) rfl ?_
  exact ⟨rfl, hb⟩

end Go.Proofs.YtchjhpeogdkbmaaDoor
