/-
  What a fifo's take answers.
-/
import Derived.Test.YthopfecjnbfnmaaUaRow
import Derived.Laws.IdiomCopy
namespace Go.Proofs.Ythopfecjnbfnmaa
open Go.RowKit
set_option linter.unusedVariables false

def tail15 (f : F) : List Value := [.int .u8 (f.b 1 : Nat), .int .u8 (f.b 2 : Nat), .int .u8 (f.b 3 : Nat), .int .u8 (f.b 4 : Nat), .int .u8 (f.b 5 : Nat), .int .u8 (f.b 6 : Nat), .int .u8 (f.b 7 : Nat), .int .u8 (f.b 8 : Nat), .int .u8 (f.b 9 : Nat), .int .u8 (f.b 10 : Nat), .int .u8 (f.b 11 : Nat), .int .u8 (f.b 12 : Nat), .int .u8 (f.b 13 : Nat), .int .u8 (f.b 14 : Nat), .int .u8 (f.b 15 : Nat)]
def shiftB (b : Nat → Nat) : Nat → Nat := fun j => if j < 15 then b (j + 1) else b j
def MoveOk (w W : World) (N : Nat) : Prop :=
    (Builtin.copy_ #[40, 40] 3 #[.slice (some ⟨N, 0, none⟩) 16 16, .slice (some ⟨N, 1, none⟩) 15 15]).run Try.prog w = .ok (.int .i64 15) W
theorem MoveOk.eq {w W : World} {N : Nat} (h : MoveOk w W N) :
    (Builtin.copy_ #[40, 40] 3 #[.slice (some ⟨N, 0, none⟩) 16 16, .slice (some ⟨N, 1, none⟩) 15 15]).run Try.prog w = .ok (.int .i64 15) W := h
theorem put_tail (f : F) : putAll f.cells 0 (tail15 f) = F.cells ⟨shiftB f.b, f.n⟩ := by kernel_rfl
theorem moved_cells (b : Nat → Nat) (n : Int) : F.cells ⟨setB (shiftB b) 15 0, n⟩ = F.cells ⟨moved b, n⟩ := by kernel_rfl
theorem copy_moves {w : World} {N : Nat} {f : F} {t : TypeId} (hr : RowAt w N f.cells t) : ∃ W, MoveOk w W N ∧ RowAt W N (F.cells ⟨shiftB f.b, f.n⟩) t ∧ Only N w W := by
  refine ⟨w.setCells N 0 (tail15 f), ?_, put_tail f ▸ RowAt.puts (tail15 f) 0 hr, only_setCells N 0 _ w⟩
  unfold MoveOk
  have hl : (tail15 f).length = 15 := rfl
  have := run_copy_cells (P := Try.prog) w 40 40 3 5 N 0 16 16 ⟨N, 1, none⟩ 15 15 (tail15 f) Try.underlying40 size_byte hl
    (fun j v hj => by
      have hj15 : j < 15 := (List.getElem?_eq_some_iff.1 hj).1
      rw [Addr.add_lit, hr.cell, Nat.add_comm, f.cell_b (j + 1) (by omega)]
      rw [← hj]
      rcases j with _ | _ | _ | _ | _ | _ | _ | _ | _ | _ | _ | _ | _ | _ | _ | j
      all_goals first | rfl | omega)
    (fun j hj => by rw [hr.cell, f.cell_b (0 + j) (by rw [hl] at hj; omega)]; rfl) (fun j hj => hr.thaw _)
    (fun v hv => by
      unfold tail15 at hv
      simp only [List.mem_cons, List.not_mem_nil, or_false] at hv
      rcases hv with rfl | rfl | rfl | rfl | rfl | rfl | rfl | rfl | rfl | rfl | rfl | rfl | rfl | rfl | rfl <;> rfl)
  rw [this, hl]; rfl

set_option maxHeartbeats 1000000 in
theorem take_in (b : Nat → Nat) (n : Int) (h0 : 0 < n) (h1 : n ≤ 16) (w : World) :
    Calls Try.prog 16 #[.agg (F.cells ⟨b, n⟩)] w fun e w' => e = .returned (.tuple #[.agg (F.cells ⟨moved b, n - 1⟩), .int .u8 (b 0 : Nat)]) ∧ Below w.heap.size w w' := by
  go_enter Try.func16, Try.ntmps16
  go_wp2_with (first | ((with_reducible refine bx_fp w.heap.size ⟨b, n⟩ ?_ ?_ ?_); exact rfl; exact rfl; intro W hr hb hz) | ((with_reducible refine al_fp (w.heap.size + 1) ?_ ?_); exact hz.out; intro W hq hb' hz'; replace hr := hr.bl (hz.out ▸ hb'); replace hb := hb.trans (hb'.mono (by omega)); replace hz := hz') | ((with_reducible refine ld_b w.heap.size 0 _ _ (by decide) hr ?_ ?_); exact rfl))
  refine wp_region_held_drew (S := (fun V => Below w.heap.size w V)) (by kernel_rfl) ?_ (fun hHeld => ?_)
  · exact hb.drew
  replace hr := hr.dr
  replace hq := hq.dr
  generalize W.drew = V at hHeld hr hq ⊢
  clear hb hz hz' hb'
  refine wpAnyH_take (i := 0) (oi := ?oi1) (v := .pointer (some ⟨w.heap.size, 0, none⟩)) ?hi1 (by kernel_rfl) (by kernel_rfl) (by kernel_rfl) ?hQ1 ?hy1 (by assumption) ?rest1
  case hi1 => (simp only [List.getElem?_toArray, List.getElem?_cons_zero]; rfl)
  case hQ1 => exact fun _ _ _ h => h
  case hy1 => exact Or.inl ⟨by rfl, by (intro w hSw; (try dsimp only at hSw); go_simp )⟩
  simp only [Act.put, List.setIfInBounds_toArray, List.set_cons_zero, List.set_cons_succ]
  refine wpAnyH_take (i := 1) (oi := ?oi2) (v := .slice (some ⟨w.heap.size, 0, none⟩) 16 16) ?hi2 (by kernel_rfl) (by kernel_rfl) (by kernel_rfl) ?hQ2 ?hy2 (by assumption) ?rest2
  case hi2 => (simp only [List.getElem?_toArray, List.getElem?_cons_zero, List.getElem?_cons_succ]; rfl)
  case hQ2 => exact fun _ _ _ h => h
  case hy2 => exact Or.inl ⟨by rfl, by (intro w hSw; (try dsimp only at hSw); go_simp )⟩
  simp only [Act.put, List.setIfInBounds_toArray, List.set_cons_zero, List.set_cons_succ]
  refine wpAnyH_take (i := 2) (oi := ?oi3) (v := .pointer (some ⟨w.heap.size, 0, none⟩)) ?hi3 (by kernel_rfl) (by kernel_rfl) (by kernel_rfl) ?hQ3 ?hy3 (by assumption) ?rest3
  case hi3 => (simp only [List.getElem?_toArray, List.getElem?_cons_zero, List.getElem?_cons_succ]; rfl)
  case hQ3 => exact fun _ _ _ h => h
  case hy3 => exact Or.inl ⟨by rfl, by (intro w hSw; (try dsimp only at hSw); go_simp )⟩
  simp only [Act.put, List.setIfInBounds_toArray, List.set_cons_zero, List.set_cons_succ]
  refine wpAnyH_take (i := 3) (oi := ?oi4) (v := .slice (some ⟨w.heap.size, 1, none⟩) 15 15) ?hi4 (by kernel_rfl) (by kernel_rfl) (by kernel_rfl) ?hQ4 ?hy4 (by assumption) ?rest4
  case hi4 => (simp only [List.getElem?_toArray, List.getElem?_cons_zero, List.getElem?_cons_succ]; rfl)
  case hQ4 => exact fun _ _ _ h => h
  case hy4 => exact Or.inl ⟨by rfl, by (intro w hSw; (try dsimp only at hSw); go_simp )⟩
  simp only [Act.put, List.setIfInBounds_toArray, List.set_cons_zero, List.set_cons_succ]
  refine wpAnyH_ready (rs := [4]) (by kernel_rfl) (by simp) ?_
  refine AllReadyH.cons (o := ?oi5) ?hi5 (fun K hK => ?_) AllReadyH.nil
  case hi5 => (simp only [List.getElem?_toArray, List.getElem?_cons_zero, List.getElem?_cons_succ]; rfl)
  obtain ⟨V2, hcp, hr2, ho⟩ := copy_moves hr
  replace hq := hq.only ho (by omega)
  have hb2 := ho.bel _ _ (by omega) hHeld
  go_simp
  with_reducible rw [MoveOk.eq hcp]
  clear hcp hHeld hr
  go_simp
  refine hK.out _ _ ?_ (fun hHeld => ?_)
  · exact hb2
  clear hK K
  refine wpAnyH_done (by kernel_rfl) ?_ _
  have hr : RowAt V2 w.heap.size (F.cells ⟨shiftB b, n⟩) 27 := hr2
  clear hr2 ho hb2
  have hb := hHeld
  clear hHeld
  go_wp2_with (first | ((with_reducible refine st_b w.heap.size 15 _ 0 _ (by decide) hr ?_ ?_ ?_); exact rfl; exact rfl; intro W hnew ho; replace hq := hq.only ho (by omega); replace hr := (moved_cells b n) ▸ hnew; replace hb := ho.bel _ _ (by omega) hb) | ((with_reducible refine ld_n w.heap.size _ _ hr ?_ ?_); exact rfl) | ((with_reducible refine st_n w.heap.size _ (n - 1) _ hr ?_ ?_ ?_); exact rfl; exact rfl; intro W hnew ho; replace hq := hq.only ho (by omega); replace hr := hnew; replace hb := ho.bel _ _ (by omega) hb) | ((with_reducible refine ld_fp w.heap.size _ hr ?_ ?_ ?_); exact rfl; exact rfl) | ((with_reducible refine st_fp (w.heap.size + 1) _ ⟨moved b, n - 1⟩ hq ?_ ?_ ?_); exact rfl; exact rfl; intro W hnew ho; replace hr := hr.only ho (by omega); replace hq := hnew; replace hb := ho.bel _ _ (by omega) hb))
  refine bodyPost_ret (results_cell_one Try.results16 _ _ (w.heap.size + 1) _ _ _ rfl hq Try.underlying27 rfl size_fp) rfl ?_
  exact ⟨rfl, hb⟩
theorem take_any (f : F) (h0 : 0 < f.n) (h1 : f.n ≤ 16) (w : World) :
    Calls Try.prog 16 #[.agg f.cells] w fun e w' => e = .returned (.tuple #[.agg (takeF f).cells, .int .u8 (f.b 0 : Nat)]) ∧ Below w.heap.size w w' :=
  take_in f.b f.n h0 h1 w
end Go.Proofs.Ythopfecjnbfnmaa
