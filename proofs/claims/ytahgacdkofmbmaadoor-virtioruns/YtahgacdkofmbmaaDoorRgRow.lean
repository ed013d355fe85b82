/-
  Rings in blocks of their own: what is read of them, and what stores make of them.
-/
import Derived.Test.YtahgacdkofmbmaaDoorRgMath
import Derived.Test.YtahgacdkofmbmaaDoorMeOps
import Derived.Deep.WholeRow
import Derived.RegionTactic
import Derived.Laws.ResultCell
import Derived.Deep.RegionHeld3
namespace Go.Proofs.YtahgacdkofmbmaaDoor
open Go.RowKit
set_option linter.unusedVariables false
set_option linter.unusedSimpArgs false

def Rg.cells (s : Rg) : Array Value := #[.int .i64 s.sz, .int .u32 (s.de : Nat), .int .u32 (s.av : Nat), .int .u32 (s.us : Nat), .int .u16 (s.la : Nat), .int .u16 (s.pu : Nat)]
theorem Rg.at0 (s : Rg) : s.cells[0]? = some (.int .i64 s.sz) := rfl
theorem Rg.at1 (s : Rg) : s.cells[1]? = some (.int .u32 (s.de : Nat)) := rfl
theorem Rg.at2 (s : Rg) : s.cells[2]? = some (.int .u32 (s.av : Nat)) := rfl
theorem Rg.at3 (s : Rg) : s.cells[3]? = some (.int .u32 (s.us : Nat)) := rfl
theorem Rg.at4 (s : Rg) : s.cells[4]? = some (.int .u16 (s.la : Nat)) := rfl
theorem Rg.at5 (s : Rg) : s.cells[5]? = some (.int .u16 (s.pu : Nat)) := rfl
theorem size_u32i : (Tryd.prog.info? 22).map (·.size) = some 1 := by kernel_rfl
theorem size_u16i : (Tryd.prog.info? 24).map (·.size) = some 1 := by kernel_rfl
theorem size_i64i : (Tryd.prog.info? 3).map (·.size) = some 1 := by kernel_rfl
theorem size_boi : (Tryd.prog.info? 4).map (·.size) = some 1 := by kernel_rfl
theorem rg_one (s : Rg) : s.cells.all (·.oneCell') = true := by simp [Rg.cells, Value.oneCell']
def errR (n : Nat) : Value := if n = 0 then .nilIface else .iface 65 (.int .i64 (n : Int))
variable {ops : Array Oper} {rest : List Oper} {dst : Option Tmp} {ty : TypeId} {pos : String} {after : Array Edge} {a : Act} {w : World} {Q : Exit → Act → World → Prop} {x y : Operand} {b : Nat} {S : World → Prop} {K : Act → World → Prop} {gd : Option (Nat × Bool)}
theorem op_load_cellg {P : Program} {t : TypeId} (b j : Nat) (hx : a.eval x = .pointer (some ⟨b, j, none⟩)) (cs : Array Value) (v : Value) (t' : TypeId) (hr : RowAt w b cs t') (hv : cs[j]? = some v) (d : TypeDesc) (hu : P.underlying t = some d) (hd : d.isRow = false)
    (hw : Region.wanted ⟨dst, .load t x, ty, pos, after, gd⟩ (yielded ops a.tmps) = true) (k : wpList P ops Q rest (a.put dst v) w) : wpList P ops Q (⟨dst, .load t x, ty, pos, after, gd⟩ :: rest) a w := by
  have hcell : w.cell? ⟨b, j, none⟩ = some v := (hr.cell j).trans hv
  have hrun : (loadVar t ⟨b, j, none⟩).run P w = .ok v w := by
    have hagg : (isAgg t).run P w = .ok false w := by
      unfold isAgg
      rw [Sem.run_bind, run_underlying hu w]
      cases d <;> simp_all
    simp [loadVar, Sem.run_bind, hagg, hcell]
  refine BigFrame.wpList_want hw fun K hK => ?_
  unfold Oper.wp execOp
  simp only [hx, Instr.loadAt, Instr.sureAddr, Sem.run_bind, Sem.run_pure, Result.andThen_ok, hrun]
  exact hK _ _ k
theorem size_rp : (Tryd.prog.info? 32).map (·.size) = some 6 := by kernel_rfl
theorem zero_rp (w : World) : (zeroValue 32).run Tryd.prog w = .ok (.agg zeroRg.cells) w :=
  (zero_of_info (P := Tryd.prog) (t := 32) (v := .agg zeroRg.cells) (n := 6) (by kernel_rfl)).1 w
theorem bx_rp (N : Nat) (h : Rg) (hN : w.heap.size = N) (hx : a.eval x = .agg h.cells)
    (k : ∀ W, RowAt W N h.cells 32 → Below N w W → Hid (W.heap.size = N + 1) → wpList Tryd.prog ops Q rest (a.put dst (.pointer (some ⟨N, 0, none⟩))) W) :
    wpList Tryd.prog ops Q (⟨dst, .box 32 x, ty, pos, after, none⟩ :: rest) a w := op_box N hN h.cells hx k
theorem al_rp (N : Nat) (hN : w.heap.size = N)
    (k : ∀ W, RowAt W N zeroRg.cells 32 → Below N w W → Hid (W.heap.size = N + 1) → wpList Tryd.prog ops Q rest (a.put dst (.pointer (some ⟨N, 0, none⟩))) W) :
    wpList Tryd.prog ops Q (⟨dst, .alloc 32, ty, pos, after, none⟩ :: rest) a w := op_alloc N hN zeroRg.cells zero_rp k
theorem ld_rp (b : Nat) (h : Rg) (hr : RowAt w b h.cells 32) (hx : a.eval x = .pointer (some ⟨b, 0, none⟩)) (hw : Region.wanted ⟨dst, .load 32 x, ty, pos, after, gd⟩ (yielded ops a.tmps) = true)
    (k : wpList Tryd.prog ops Q rest (a.put dst (.agg h.cells)) w) : wpList Tryd.prog ops Q (⟨dst, .load 32 x, ty, pos, after, gd⟩ :: rest) a w :=
  BigFrame.wpList_want hw fun K hK => wp_load_row 32 x rfl b hx _ h.cells (0, 0) _ hr Tryd.underlying32 rfl size_rp (hK _ _ k)
theorem st_rp (b : Nat) (old h : Rg) (hr : RowAt w b old.cells 32) (hx : a.eval x = .pointer (some ⟨b, 0, none⟩)) (hy : a.eval y = .agg h.cells)
    (k : ∀ W, RowAt W b h.cells 32 → Only b w W → wpList Tryd.prog ops Q rest (a.put dst undef) W) : wpList Tryd.prog ops Q (⟨dst, .store 32 x y, ty, pos, after, none⟩ :: rest) a w :=
  op_store b hx h.cells hy old.cells _ hr size_rp rfl (rg_one h) k
theorem y_rp (b : Nat) (h : Rg) (hS : ∀ V, S V → RowAt V b h.cells 32) (hx : a.eval x = .pointer (some ⟨b, 0, none⟩)) (hw : Region.wanted ⟨dst, .load 32 x, ty, pos, after, gd⟩ (yielded ops a.tmps) = true) :
    YieldsIf Tryd.prog ops S ⟨dst, .load 32 x, ty, pos, after, gd⟩ (.agg h.cells) a := by
  rcases y_load (ops := ops) (P := Tryd.prog) (t := 32) (dst := dst) (ty := ty) (after := after) (a := a) (x := x) (pos := pos) (S := S) b h.cells _ hS _ Tryd.underlying32 rfl size_rp hx with ⟨_, h2⟩ | ⟨h1, _⟩
  · exact .inl ⟨hw, fun V hV => h2 V hV⟩
  · simp [Region.wanted] at h1
theorem s_rp (b : Nat) (old h : Rg) (hr : RowAt w b old.cells 32) (hx : a.eval x = .pointer (some ⟨b, 0, none⟩)) (hy : a.eval y = .agg h.cells)
    (k : ∀ W, RowAt W b h.cells 32 → Only b w W → K (a.put dst undef) W) :
    Oper.wp Tryd.prog ⟨dst, .store 32 x y, ty, pos, after, none⟩ a w K Q :=
  s_store b hx h.cells hy old.cells _ hr size_rp rfl (rg_one h) k
theorem size_rr : (Tryd.prog.info? 26).map (·.size) = some 6 := by kernel_rfl
theorem zero_rr (w : World) : (zeroValue 26).run Tryd.prog w = .ok (.agg zeroRg.cells) w :=
  (zero_of_info (P := Tryd.prog) (t := 26) (v := .agg zeroRg.cells) (n := 6) (by kernel_rfl)).1 w
theorem bx_rr (N : Nat) (h : Rg) (hN : w.heap.size = N) (hx : a.eval x = .agg h.cells)
    (k : ∀ W, RowAt W N h.cells 26 → Below N w W → Hid (W.heap.size = N + 1) → wpList Tryd.prog ops Q rest (a.put dst (.pointer (some ⟨N, 0, none⟩))) W) :
    wpList Tryd.prog ops Q (⟨dst, .box 26 x, ty, pos, after, none⟩ :: rest) a w := op_box N hN h.cells hx k
theorem al_rr (N : Nat) (hN : w.heap.size = N)
    (k : ∀ W, RowAt W N zeroRg.cells 26 → Below N w W → Hid (W.heap.size = N + 1) → wpList Tryd.prog ops Q rest (a.put dst (.pointer (some ⟨N, 0, none⟩))) W) :
    wpList Tryd.prog ops Q (⟨dst, .alloc 26, ty, pos, after, none⟩ :: rest) a w := op_alloc N hN zeroRg.cells zero_rr k
theorem ld_rr (b : Nat) (h : Rg) (hr : RowAt w b h.cells 26) (hx : a.eval x = .pointer (some ⟨b, 0, none⟩)) (hw : Region.wanted ⟨dst, .load 26 x, ty, pos, after, gd⟩ (yielded ops a.tmps) = true)
    (k : wpList Tryd.prog ops Q rest (a.put dst (.agg h.cells)) w) : wpList Tryd.prog ops Q (⟨dst, .load 26 x, ty, pos, after, gd⟩ :: rest) a w :=
  BigFrame.wpList_want hw fun K hK => wp_load_row 26 x rfl b hx _ h.cells (0, 0) _ hr Tryd.underlying26 rfl size_rr (hK _ _ k)
theorem st_rr (b : Nat) (old h : Rg) (hr : RowAt w b old.cells 26) (hx : a.eval x = .pointer (some ⟨b, 0, none⟩)) (hy : a.eval y = .agg h.cells)
    (k : ∀ W, RowAt W b h.cells 26 → Only b w W → wpList Tryd.prog ops Q rest (a.put dst undef) W) : wpList Tryd.prog ops Q (⟨dst, .store 26 x y, ty, pos, after, none⟩ :: rest) a w :=
  op_store b hx h.cells hy old.cells _ hr size_rr rfl (rg_one h) k
theorem y_rr (b : Nat) (h : Rg) (hS : ∀ V, S V → RowAt V b h.cells 26) (hx : a.eval x = .pointer (some ⟨b, 0, none⟩)) (hw : Region.wanted ⟨dst, .load 26 x, ty, pos, after, gd⟩ (yielded ops a.tmps) = true) :
    YieldsIf Tryd.prog ops S ⟨dst, .load 26 x, ty, pos, after, gd⟩ (.agg h.cells) a := by
  rcases y_load (ops := ops) (P := Tryd.prog) (t := 26) (dst := dst) (ty := ty) (after := after) (a := a) (x := x) (pos := pos) (S := S) b h.cells _ hS _ Tryd.underlying26 rfl size_rr hx with ⟨_, h2⟩ | ⟨h1, _⟩
  · exact .inl ⟨hw, fun V hV => h2 V hV⟩
  · simp [Region.wanted] at h1
theorem s_rr (b : Nat) (old h : Rg) (hr : RowAt w b old.cells 26) (hx : a.eval x = .pointer (some ⟨b, 0, none⟩)) (hy : a.eval y = .agg h.cells)
    (k : ∀ W, RowAt W b h.cells 26 → Only b w W → K (a.put dst undef) W) :
    Oper.wp Tryd.prog ⟨dst, .store 26 x y, ty, pos, after, none⟩ a w K Q :=
  s_store b hx h.cells hy old.cells _ hr size_rr rfl (rg_one h) k
end Go.Proofs.YtahgacdkofmbmaaDoor
