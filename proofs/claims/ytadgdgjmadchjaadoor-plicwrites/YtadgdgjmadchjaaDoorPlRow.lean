/-
  A controller in a block of its own: its priorities and words, and what stores make of them.
-/
import Derived.Test.YtadgdgjmadchjaaDoorOps
import Derived.Test.YtadgdgjmadchjaaDoorPlMath
import Derived.Deep.WholeRow
import Derived.Laws.BitsAllLaws
import Derived.RegionTactic
import Derived.Laws.ResultCell
namespace Go.Proofs.YtadgdgjmadchjaaDoor
open Go.RowKit
set_option linter.unusedVariables false

def P5.cells (s : P5) : Array Value := #[.int .u32 (s.pr 0 : Nat), .int .u32 (s.pr 1 : Nat), .int .u32 (s.pr 2 : Nat), .int .u32 (s.pr 3 : Nat), .int .u32 (s.pr 4 : Nat), .int .u32 (s.pr 5 : Nat), .int .u32 (s.pr 6 : Nat), .int .u32 (s.pr 7 : Nat), .int .u32 (s.en : Nat), .int .u32 (s.th : Nat), .int .u32 (s.pe : Nat), .int .u32 (s.bu : Nat)]
theorem P5.at0 (s : P5) : s.cells[0]? = some (.int .u32 (s.pr 0 : Nat)) := rfl
theorem P5.at1 (s : P5) : s.cells[1]? = some (.int .u32 (s.pr 1 : Nat)) := rfl
theorem P5.at2 (s : P5) : s.cells[2]? = some (.int .u32 (s.pr 2 : Nat)) := rfl
theorem P5.at3 (s : P5) : s.cells[3]? = some (.int .u32 (s.pr 3 : Nat)) := rfl
theorem P5.at4 (s : P5) : s.cells[4]? = some (.int .u32 (s.pr 4 : Nat)) := rfl
theorem P5.at5 (s : P5) : s.cells[5]? = some (.int .u32 (s.pr 5 : Nat)) := rfl
theorem P5.at6 (s : P5) : s.cells[6]? = some (.int .u32 (s.pr 6 : Nat)) := rfl
theorem P5.at7 (s : P5) : s.cells[7]? = some (.int .u32 (s.pr 7 : Nat)) := rfl
theorem P5.at8 (s : P5) : s.cells[8]? = some (.int .u32 (s.en : Nat)) := rfl
theorem P5.at9 (s : P5) : s.cells[9]? = some (.int .u32 (s.th : Nat)) := rfl
theorem P5.at10 (s : P5) : s.cells[10]? = some (.int .u32 (s.pe : Nat)) := rfl
theorem P5.at11 (s : P5) : s.cells[11]? = some (.int .u32 (s.bu : Nat)) := rfl
theorem size_word : (Tryd.prog.info? 22).map (·.size) = some 1 := by kernel_rfl
theorem P5.size (s : P5) : s.cells.size = 12 := rfl
theorem p_one (s : P5) : s.cells.all (·.oneCell') = true := by simp [P5.cells, Value.oneCell']
theorem P5.cell_pr (s : P5) (r : Nat) (hr : r < 8) : s.cells[r]? = some (.int .u32 (s.pr r : Nat)) := by
  rcases r with _ | _ | _ | _ | _ | _ | _ | _ | r
  all_goals first | rfl | omega
theorem P5.set_pr (s : P5) (r v : Nat) (hr : r < 8) : s.cells.setIfInBounds r (.int .u32 (v : Nat)) = P5.cells ⟨setN s.pr r v, s.en, s.th, s.pe, s.bu⟩ := by
  rcases r with _ | _ | _ | _ | _ | _ | _ | _ | r
  all_goals first | rfl | omega
theorem p_ext {s t : P5} (h0 : ∀ i, i < 8 → s.pr i = t.pr i) (h1 : s.en = t.en) (h2 : s.th = t.th) (h3 : s.pe = t.pe) (h4 : s.bu = t.bu) : s.cells = t.cells := by
  unfold P5.cells
  rw [h0 0 (by decide), h0 1 (by decide), h0 2 (by decide), h0 3 (by decide), h0 4 (by decide), h0 5 (by decide), h0 6 (by decide), h0 7 (by decide), h1, h2, h3, h4]
theorem ret_agg {cs ds : Array Value} (h : cs = ds) : Ending.returned (.agg cs) = .returned (.agg ds) := by rw [h]
variable {ops : Array Oper} {rest : List Oper} {dst : Option Tmp} {ty : TypeId} {pos : String} {after : Array Edge} {a : Act} {w : World} {Q : Exit → Act → World → Prop} {x y : Operand} {b : Nat} {S : World → Prop} {K : Act → World → Prop}
theorem size_p : (Tryd.prog.info? 26).map (·.size) = some 12 := by kernel_rfl
theorem zero_p (w : World) : (zeroValue 26).run Tryd.prog w = .ok (.agg zeroP.cells) w :=
  (zero_of_info (P := Tryd.prog) (t := 26) (v := .agg zeroP.cells) (n := 12) (by kernel_rfl)).1 w
theorem bx_p (N : Nat) (h : P5) (hN : w.heap.size = N) (hx : a.eval x = .agg h.cells)
    (k : ∀ W, RowAt W N h.cells 26 → Below N w W → Hid (W.heap.size = N + 1) → wpList Tryd.prog ops Q rest (a.put dst (.pointer (some ⟨N, 0, none⟩))) W) :
    wpList Tryd.prog ops Q (⟨dst, .box 26 x, ty, pos, after, none⟩ :: rest) a w := op_box N hN h.cells hx k
theorem al_p (N : Nat) (hN : w.heap.size = N)
    (k : ∀ W, RowAt W N zeroP.cells 26 → Below N w W → Hid (W.heap.size = N + 1) → wpList Tryd.prog ops Q rest (a.put dst (.pointer (some ⟨N, 0, none⟩))) W) :
    wpList Tryd.prog ops Q (⟨dst, .alloc 26, ty, pos, after, none⟩ :: rest) a w := op_alloc N hN zeroP.cells zero_p k
theorem ld_p (b : Nat) (h : P5) (hr : RowAt w b h.cells 26) (hx : a.eval x = .pointer (some ⟨b, 0, none⟩))
    (k : wpList Tryd.prog ops Q rest (a.put dst (.agg h.cells)) w) : wpList Tryd.prog ops Q (⟨dst, .load 26 x, ty, pos, after, none⟩ :: rest) a w :=
  op_load b hx h.cells _ hr _ Tryd.underlying26 rfl size_p k
theorem st_p (b : Nat) (old h : P5) (hr : RowAt w b old.cells 26) (hx : a.eval x = .pointer (some ⟨b, 0, none⟩)) (hy : a.eval y = .agg h.cells)
    (k : ∀ W, RowAt W b h.cells 26 → Only b w W → wpList Tryd.prog ops Q rest (a.put dst undef) W) : wpList Tryd.prog ops Q (⟨dst, .store 26 x y, ty, pos, after, none⟩ :: rest) a w :=
  op_store b hx h.cells hy old.cells _ hr size_p rfl (p_one h) k
theorem y_p (b : Nat) (h : P5) (hS : ∀ V, S V → RowAt V b h.cells 26) (hx : a.eval x = .pointer (some ⟨b, 0, none⟩)) :
    YieldsIf Tryd.prog ops S ⟨dst, .load 26 x, ty, pos, after, none⟩ (.agg h.cells) a := y_load b h.cells _ hS _ Tryd.underlying26 rfl size_p hx
theorem s_p (b : Nat) (old h : P5) (hr : RowAt w b old.cells 26) (hx : a.eval x = .pointer (some ⟨b, 0, none⟩)) (hy : a.eval y = .agg h.cells)
    (k : ∀ W, RowAt W b h.cells 26 → Only b w W → K (a.put dst undef) W) :
    Oper.wp Tryd.prog ⟨dst, .store 26 x y, ty, pos, after, none⟩ a w K Q :=
  s_store b hx h.cells hy old.cells _ hr size_p rfl (p_one h) k
theorem size_r : (Tryd.prog.info? 25).map (·.size) = some 12 := by kernel_rfl
theorem zero_r (w : World) : (zeroValue 25).run Tryd.prog w = .ok (.agg zeroP.cells) w :=
  (zero_of_info (P := Tryd.prog) (t := 25) (v := .agg zeroP.cells) (n := 12) (by kernel_rfl)).1 w
theorem bx_r (N : Nat) (h : P5) (hN : w.heap.size = N) (hx : a.eval x = .agg h.cells)
    (k : ∀ W, RowAt W N h.cells 25 → Below N w W → Hid (W.heap.size = N + 1) → wpList Tryd.prog ops Q rest (a.put dst (.pointer (some ⟨N, 0, none⟩))) W) :
    wpList Tryd.prog ops Q (⟨dst, .box 25 x, ty, pos, after, none⟩ :: rest) a w := op_box N hN h.cells hx k
theorem al_r (N : Nat) (hN : w.heap.size = N)
    (k : ∀ W, RowAt W N zeroP.cells 25 → Below N w W → Hid (W.heap.size = N + 1) → wpList Tryd.prog ops Q rest (a.put dst (.pointer (some ⟨N, 0, none⟩))) W) :
    wpList Tryd.prog ops Q (⟨dst, .alloc 25, ty, pos, after, none⟩ :: rest) a w := op_alloc N hN zeroP.cells zero_r k
theorem ld_r (b : Nat) (h : P5) (hr : RowAt w b h.cells 25) (hx : a.eval x = .pointer (some ⟨b, 0, none⟩))
    (k : wpList Tryd.prog ops Q rest (a.put dst (.agg h.cells)) w) : wpList Tryd.prog ops Q (⟨dst, .load 25 x, ty, pos, after, none⟩ :: rest) a w :=
  op_load b hx h.cells _ hr _ Tryd.underlying25 rfl size_r k
theorem st_r (b : Nat) (old h : P5) (hr : RowAt w b old.cells 25) (hx : a.eval x = .pointer (some ⟨b, 0, none⟩)) (hy : a.eval y = .agg h.cells)
    (k : ∀ W, RowAt W b h.cells 25 → Only b w W → wpList Tryd.prog ops Q rest (a.put dst undef) W) : wpList Tryd.prog ops Q (⟨dst, .store 25 x y, ty, pos, after, none⟩ :: rest) a w :=
  op_store b hx h.cells hy old.cells _ hr size_r rfl (p_one h) k
theorem y_r (b : Nat) (h : P5) (hS : ∀ V, S V → RowAt V b h.cells 25) (hx : a.eval x = .pointer (some ⟨b, 0, none⟩)) :
    YieldsIf Tryd.prog ops S ⟨dst, .load 25 x, ty, pos, after, none⟩ (.agg h.cells) a := y_load b h.cells _ hS _ Tryd.underlying25 rfl size_r hx
theorem s_r (b : Nat) (old h : P5) (hr : RowAt w b old.cells 25) (hx : a.eval x = .pointer (some ⟨b, 0, none⟩)) (hy : a.eval y = .agg h.cells)
    (k : ∀ W, RowAt W b h.cells 25 → Only b w W → K (a.put dst undef) W) :
    Oper.wp Tryd.prog ⟨dst, .store 25 x y, ty, pos, after, none⟩ a w K Q :=
  s_store b hx h.cells hy old.cells _ hr size_r rfl (p_one h) k
/-- A word out of a controller. -/
theorem ld_w (b j : Nat) (cs : Array Value) (v : Nat) (t' : TypeId) (hr : RowAt w b cs t') (hv : cs[j]? = some (.int .u32 (v : Nat))) (hx : a.eval x = .pointer (some ⟨b, j, none⟩))
    (k : wpList Tryd.prog ops Q rest (a.put dst (.int .u32 (v : Nat))) w) : wpList Tryd.prog ops Q (⟨dst, .load 22 x, ty, pos, after, none⟩ :: rest) a w :=
  op_load_cell b j hx cs _ _ hr hv _ Tryd.underlying22 rfl k
theorem y_word (b j : Nat) (v : Int) (hS : ∀ V, S V → V.cell? ⟨b, j, none⟩ = some (.int .u32 v)) (hx : a.eval x = .pointer (some ⟨b, j, none⟩)) :
    YieldsIf Tryd.prog ops S ⟨dst, .load 22 x, ty, pos, after, none⟩ (.int .u32 v) a := y_cell b j _ hS _ Tryd.underlying22 rfl hx
theorem ld_en (b : Nat) (h : P5) (t' : TypeId) (hr : RowAt w b h.cells t') (hx : a.eval x = .pointer (some ⟨b, 8, none⟩))
    (k : wpList Tryd.prog ops Q rest (a.put dst (.int .u32 (h.en : Nat))) w) : wpList Tryd.prog ops Q (⟨dst, .load 22 x, ty, pos, after, none⟩ :: rest) a w :=
  op_load_cell b 8 hx h.cells _ _ hr rfl _ Tryd.underlying22 rfl k
theorem st_en (b : Nat) (h : P5) (p : Nat) (t' : TypeId) (hr : RowAt w b h.cells t') (hx : a.eval x = .pointer (some ⟨b, 8, none⟩)) (hy : a.eval y = .int .u32 (p : Nat))
    (k : ∀ W, RowAt W b (P5.cells ⟨h.pr, p, h.th, h.pe, h.bu⟩) t' → Only b w W → wpList Tryd.prog ops Q rest (a.put dst undef) W) : wpList Tryd.prog ops Q (⟨dst, .store 22 x y, ty, pos, after, none⟩ :: rest) a w :=
  op_store_cell b 8 hx _ hy h.cells _ _ hr size_word (by show 8 < 12; decide) rfl rfl k
theorem ld_th (b : Nat) (h : P5) (t' : TypeId) (hr : RowAt w b h.cells t') (hx : a.eval x = .pointer (some ⟨b, 9, none⟩))
    (k : wpList Tryd.prog ops Q rest (a.put dst (.int .u32 (h.th : Nat))) w) : wpList Tryd.prog ops Q (⟨dst, .load 22 x, ty, pos, after, none⟩ :: rest) a w :=
  op_load_cell b 9 hx h.cells _ _ hr rfl _ Tryd.underlying22 rfl k
theorem st_th (b : Nat) (h : P5) (p : Nat) (t' : TypeId) (hr : RowAt w b h.cells t') (hx : a.eval x = .pointer (some ⟨b, 9, none⟩)) (hy : a.eval y = .int .u32 (p : Nat))
    (k : ∀ W, RowAt W b (P5.cells ⟨h.pr, h.en, p, h.pe, h.bu⟩) t' → Only b w W → wpList Tryd.prog ops Q rest (a.put dst undef) W) : wpList Tryd.prog ops Q (⟨dst, .store 22 x y, ty, pos, after, none⟩ :: rest) a w :=
  op_store_cell b 9 hx _ hy h.cells _ _ hr size_word (by show 9 < 12; decide) rfl rfl k
theorem ld_pe (b : Nat) (h : P5) (t' : TypeId) (hr : RowAt w b h.cells t') (hx : a.eval x = .pointer (some ⟨b, 10, none⟩))
    (k : wpList Tryd.prog ops Q rest (a.put dst (.int .u32 (h.pe : Nat))) w) : wpList Tryd.prog ops Q (⟨dst, .load 22 x, ty, pos, after, none⟩ :: rest) a w :=
  op_load_cell b 10 hx h.cells _ _ hr rfl _ Tryd.underlying22 rfl k
theorem st_pe (b : Nat) (h : P5) (p : Nat) (t' : TypeId) (hr : RowAt w b h.cells t') (hx : a.eval x = .pointer (some ⟨b, 10, none⟩)) (hy : a.eval y = .int .u32 (p : Nat))
    (k : ∀ W, RowAt W b (P5.cells ⟨h.pr, h.en, h.th, p, h.bu⟩) t' → Only b w W → wpList Tryd.prog ops Q rest (a.put dst undef) W) : wpList Tryd.prog ops Q (⟨dst, .store 22 x y, ty, pos, after, none⟩ :: rest) a w :=
  op_store_cell b 10 hx _ hy h.cells _ _ hr size_word (by show 10 < 12; decide) rfl rfl k
theorem ld_bu (b : Nat) (h : P5) (t' : TypeId) (hr : RowAt w b h.cells t') (hx : a.eval x = .pointer (some ⟨b, 11, none⟩))
    (k : wpList Tryd.prog ops Q rest (a.put dst (.int .u32 (h.bu : Nat))) w) : wpList Tryd.prog ops Q (⟨dst, .load 22 x, ty, pos, after, none⟩ :: rest) a w :=
  op_load_cell b 11 hx h.cells _ _ hr rfl _ Tryd.underlying22 rfl k
theorem st_bu (b : Nat) (h : P5) (p : Nat) (t' : TypeId) (hr : RowAt w b h.cells t') (hx : a.eval x = .pointer (some ⟨b, 11, none⟩)) (hy : a.eval y = .int .u32 (p : Nat))
    (k : ∀ W, RowAt W b (P5.cells ⟨h.pr, h.en, h.th, h.pe, p⟩) t' → Only b w W → wpList Tryd.prog ops Q rest (a.put dst undef) W) : wpList Tryd.prog ops Q (⟨dst, .store 22 x y, ty, pos, after, none⟩ :: rest) a w :=
  op_store_cell b 11 hx _ hy h.cells _ _ hr size_word (by show 11 < 12; decide) rfl rfl k
theorem ld_pr (b r : Nat) (h : P5) (t' : TypeId) (hr' : r < 8) (hr : RowAt w b h.cells t') (hx : a.eval x = .pointer (some ⟨b, r, none⟩))
    (k : wpList Tryd.prog ops Q rest (a.put dst (.int .u32 (h.pr r : Nat))) w) : wpList Tryd.prog ops Q (⟨dst, .load 22 x, ty, pos, after, none⟩ :: rest) a w :=
  op_load_cell b r hx h.cells _ _ hr (h.cell_pr r hr') _ Tryd.underlying22 rfl k
theorem st_pr (b r : Nat) (h : P5) (p : Nat) (t' : TypeId) (hr' : r < 8) (hr : RowAt w b h.cells t') (hx : a.eval x = .pointer (some ⟨b, r, none⟩)) (hy : a.eval y = .int .u32 (p : Nat))
    (k : ∀ W, RowAt W b (P5.cells ⟨setN h.pr r p, h.en, h.th, h.pe, h.bu⟩) t' → Only b w W → wpList Tryd.prog ops Q rest (a.put dst undef) W) : wpList Tryd.prog ops Q (⟨dst, .store 22 x y, ty, pos, after, none⟩ :: rest) a w :=
  op_store_cell b r hx _ hy h.cells _ _ hr size_word (by show r < 12; omega) rfl (P5.set_pr h r p hr') k
/-- A word is read, where a region draws its order. -/
theorem l_w (b j : Nat) (cs : Array Value) (t' : TypeId) (v : Nat) (hr : RowAt w b cs t') (hv : cs[j]? = some (.int .u32 (v : Nat))) (hx : a.eval x = .pointer (some ⟨b, j, none⟩))
    (k : K (a.put dst (.int .u32 (v : Nat))) w) : Oper.wp Tryd.prog ⟨dst, .load 22 x, ty, pos, after, none⟩ a w K Q := by
  have hcell : w.cell? ⟨b, j, none⟩ = some (.int .u32 (v : Nat)) := (hr.cell j).trans hv
  have hrun : (loadVar 22 ⟨b, j, none⟩).run Tryd.prog w = .ok (.int .u32 (v : Nat)) w := by
    have hagg : (isAgg 22).run Tryd.prog w = .ok false w := by
      unfold isAgg
      rw [Sem.run_bind, run_underlying Tryd.underlying22 w]
      rfl
    simp [loadVar, Sem.run_bind, hagg, hcell]
  unfold Oper.wp execOp
  simp only [hx, Instr.loadAt, Instr.sureAddr, Sem.run_bind, Sem.run_pure, Result.andThen_ok, hrun]
  exact k
/-- A word is stored, where a region draws its order. -/
theorem s_w (b j : Nat) (old cs : Array Value) (t' : TypeId) (v : Nat) (hr : RowAt w b old t') (hp : old.setIfInBounds j (.int .u32 (v : Nat)) = cs) (hs : j < old.size) (hx : a.eval x = .pointer (some ⟨b, j, none⟩)) (hy : a.eval y = .int .u32 (v : Nat))
    (k : ∀ W, RowAt W b cs t' → Only b w W → K (a.put dst undef) W) : Oper.wp Tryd.prog ⟨dst, .store 22 x y, ty, pos, after, none⟩ a w K Q := by
  subst hp
  have hth := hr.thereAt j 1 (by omega)
  have := run_storeCells_cells (P := Tryd.prog) b j [.int .u32 (v : Nat)] 0 w (fun i hi => by simpa using (hth i (by simpa using hi)).1) (fun i hi => by simpa using (hth i (by simpa using hi)).2) (fun u hu => by simp at hu; subst hu; rfl)
  have hrun : (storeVar 22 ⟨b, j, none⟩ (.int .u32 (v : Nat))).run Tryd.prog w = .ok () (w.setCells b j [.int .u32 (v : Nat)]) := by
    have hi := size_word
    cases hq : Tryd.prog.info? 22 with
    | none => simp [hq] at hi
    | some i =>
      have hs : i.size = 1 := by simp [hq] at hi; omega
      simp only [Nat.add_zero] at this
      simp [storeVar, sizeOf, typeInfo, hq, Value.cells, hs, this]
  unfold Oper.wp execOp
  simp only [hx, hy, Instr.storeAt, Instr.sureAddr, Sem.run_bind, Sem.run_pure, Result.andThen_ok, hrun]
  exact k _ (hr.put j _) (only_setCells b j [.int .u32 (v : Nat)] w)
end Go.Proofs.YtadgdgjmadchjaaDoor
