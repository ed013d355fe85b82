/-
  What the document's Live, Fail and Used answer.
-/
import Derived.Test.YtbggkoahofnnjaaGreatDoorJR5
import Derived.Deep.WholeRow
import Derived.RegionTactic
import Derived.Deep.RegionHeld3
open Go.Proofs.Tryz
set_option linter.unusedVariables false
set_option linter.unusedSimpArgs false
namespace Go.Proofs.YtbggkoahofnnjaaGreatDoor
open Go.RowKit
def Rg.cells (s : Rg) : Array Value := #[.int .i64 s.sz, .int .u32 (s.de : Nat), .int .u32 (s.av : Nat), .int .u32 (s.us : Nat), .int .u16 (s.la : Nat), .int .u16 (s.pu : Nat)]
theorem Rg.at0 (s : Rg) : s.cells[0]? = some (.int .i64 s.sz) := rfl
theorem Rg.at1 (s : Rg) : s.cells[1]? = some (.int .u32 (s.de : Nat)) := rfl
theorem Rg.at2 (s : Rg) : s.cells[2]? = some (.int .u32 (s.av : Nat)) := rfl
theorem Rg.at3 (s : Rg) : s.cells[3]? = some (.int .u32 (s.us : Nat)) := rfl
theorem Rg.at4 (s : Rg) : s.cells[4]? = some (.int .u16 (s.la : Nat)) := rfl
theorem Rg.at5 (s : Rg) : s.cells[5]? = some (.int .u16 (s.pu : Nat)) := rfl
theorem size_u32i : (prog.info? 22).map (·.size) = some 1 := by kernel_rfl
theorem size_u16i : (prog.info? 24).map (·.size) = some 1 := by kernel_rfl
theorem size_i64i : (prog.info? 3).map (·.size) = some 1 := by kernel_rfl
theorem size_boi : (prog.info? 4).map (·.size) = some 1 := by kernel_rfl
theorem rg_one (s : Rg) : s.cells.all (·.oneCell') = true := by simp [Rg.cells, Value.oneCell']
def errR (n : Nat) : Value := if n = 0 then .nilIface else .iface 82 (.int .i64 (n : Int))
variable {ops : Array Oper} {rest : List Oper} {dst : Option Tmp} {ty : TypeId} {pos : String} {after : Array Edge} {a : Act} {w : World} {Q : Exit → Act → World → Prop} {x y : Operand} {b : Nat} {S : World → Prop} {K : Act → World → Prop} {gd : Option (Nat × Bool)}
theorem op_load_cellg {P : Program} {t : TypeId} (b j : Nat) (hx : a.eval x = .pointer (some ⟨b, j, none⟩)) (cs : Array Value) (v : Value) (t' : TypeId) (hr : RowAt w b cs t') (hv : cs[j]? = some v) (d : TypeDesc) (hu : P.underlying t = some d) (hd : d.isRow = false)
    (hw : Region.wanted ⟨dst, .load t x, ty, pos, after, gd⟩ (yielded ops a.tmps) = true) (k : wpList P ops Q rest (a.put dst v) w) : wpList P ops Q (⟨dst, .load t x, ty, pos, after, gd⟩ :: rest) a w := by
  have hcell : w.cell? ⟨b, j, none⟩ = some v := (hr.cell j).trans hv
  have hrun : (loadVar t ⟨b, j, none⟩).run P w = .ok v w := by
    have hagg : (isAgg t).run P w = .ok false w := by
      unfold isAgg
      rw [Sem.run_bind, run_underlying hu w]
      cases d <;> simp_all
    simp [loadVar, Sem.run_bind, hagg, hcell]
  refine BigFrame.wpList_want hw fun K hK => ?_
  unfold Oper.wp execOp
  simp only [hx, Instr.loadAt, Instr.sureAddr, Sem.run_bind, Sem.run_pure, Result.andThen_ok, hrun]
  exact hK _ _ k
theorem size_rp : (prog.info? 34).map (·.size) = some 6 := by kernel_rfl
theorem zero_rp (w : World) : (zeroValue 34).run prog w = .ok (.agg zeroRg.cells) w :=
  (zero_of_info (P := prog) (t := 34) (v := .agg zeroRg.cells) (n := 6) (by kernel_rfl)).1 w
theorem bx_rp (N : Nat) (h : Rg) (hN : w.heap.size = N) (hx : a.eval x = .agg h.cells)
    (k : ∀ W, RowAt W N h.cells 34 → Below N w W → Hid (W.heap.size = N + 1) → wpList prog ops Q rest (a.put dst (.pointer (some ⟨N, 0, none⟩))) W) :
    wpList prog ops Q (⟨dst, .box 34 x, ty, pos, after, none⟩ :: rest) a w := op_box N hN h.cells hx k
theorem al_rp (N : Nat) (hN : w.heap.size = N)
    (k : ∀ W, RowAt W N zeroRg.cells 34 → Below N w W → Hid (W.heap.size = N + 1) → wpList prog ops Q rest (a.put dst (.pointer (some ⟨N, 0, none⟩))) W) :
    wpList prog ops Q (⟨dst, .alloc 34, ty, pos, after, none⟩ :: rest) a w := op_alloc N hN zeroRg.cells zero_rp k
theorem ld_rp (b : Nat) (h : Rg) (hr : RowAt w b h.cells 34) (hx : a.eval x = .pointer (some ⟨b, 0, none⟩)) (hw : Region.wanted ⟨dst, .load 34 x, ty, pos, after, gd⟩ (yielded ops a.tmps) = true)
    (k : wpList prog ops Q rest (a.put dst (.agg h.cells)) w) : wpList prog ops Q (⟨dst, .load 34 x, ty, pos, after, gd⟩ :: rest) a w :=
  BigFrame.wpList_want hw fun K hK => wp_load_row 34 x rfl b hx _ h.cells (0, 0) _ hr underlying34 rfl size_rp (hK _ _ k)
theorem st_rp (b : Nat) (old h : Rg) (hr : RowAt w b old.cells 34) (hx : a.eval x = .pointer (some ⟨b, 0, none⟩)) (hy : a.eval y = .agg h.cells)
    (k : ∀ W, RowAt W b h.cells 34 → Only b w W → wpList prog ops Q rest (a.put dst undef) W) : wpList prog ops Q (⟨dst, .store 34 x y, ty, pos, after, none⟩ :: rest) a w :=
  op_store b hx h.cells hy old.cells _ hr size_rp rfl (rg_one h) k
theorem y_rp (b : Nat) (h : Rg) (hS : ∀ V, S V → RowAt V b h.cells 34) (hx : a.eval x = .pointer (some ⟨b, 0, none⟩)) (hw : Region.wanted ⟨dst, .load 34 x, ty, pos, after, gd⟩ (yielded ops a.tmps) = true) :
    YieldsIf prog ops S ⟨dst, .load 34 x, ty, pos, after, gd⟩ (.agg h.cells) a := by
  rcases y_load (ops := ops) (P := prog) (t := 34) (dst := dst) (ty := ty) (after := after) (a := a) (x := x) (pos := pos) (S := S) b h.cells _ hS _ underlying34 rfl size_rp hx with ⟨_, h2⟩ | ⟨h1, _⟩
  · exact .inl ⟨hw, fun V hV => h2 V hV⟩
  · simp [Region.wanted] at h1
theorem size_rr : (prog.info? 26).map (·.size) = some 6 := by kernel_rfl
theorem bx_rr (N : Nat) (h : Rg) (hN : w.heap.size = N) (hx : a.eval x = .agg h.cells)
    (k : ∀ W, RowAt W N h.cells 26 → Below N w W → Hid (W.heap.size = N + 1) → wpList prog ops Q rest (a.put dst (.pointer (some ⟨N, 0, none⟩))) W) :
    wpList prog ops Q (⟨dst, .box 26 x, ty, pos, after, none⟩ :: rest) a w := op_box N hN h.cells hx k
end Go.Proofs.YtbggkoahofnnjaaGreatDoor
namespace Go.Proofs.YtbggkoahofnnjaaGreatDoor
open Go.RowKit
def Qu.cells (s : Qu) : Array Value := #[.bool s.rd, .int .i64 s.r.sz, .int .u32 (s.r.de : Nat), .int .u32 (s.r.av : Nat), .int .u32 (s.r.us : Nat), .int .u16 (s.r.la : Nat), .int .u16 (s.r.pu : Nat)]
def V.cells (s : V) : Array Value := #[.int .u32 (s.st : Nat), .int .u32 (s.fs : Nat), .int .u32 (s.ds : Nat), .int .u32 (s.se : Nat), .int .u32 (s.ir : Nat), .int .u32 (s.d0 : Nat), .int .u32 (s.d1 : Nat), .bool s.q0.rd, .int .i64 s.q0.r.sz, .int .u32 (s.q0.r.de : Nat), .int .u32 (s.q0.r.av : Nat), .int .u32 (s.q0.r.us : Nat), .int .u16 (s.q0.r.la : Nat), .int .u16 (s.q0.r.pu : Nat), .bool s.q1.rd, .int .i64 s.q1.r.sz, .int .u32 (s.q1.r.de : Nat), .int .u32 (s.q1.r.av : Nat), .int .u32 (s.q1.r.us : Nat), .int .u16 (s.q1.r.la : Nat), .int .u16 (s.q1.r.pu : Nat)]
def V.qs (s : V) : Array Value := #[.bool s.q0.rd, .int .i64 s.q0.r.sz, .int .u32 (s.q0.r.de : Nat), .int .u32 (s.q0.r.av : Nat), .int .u32 (s.q0.r.us : Nat), .int .u16 (s.q0.r.la : Nat), .int .u16 (s.q0.r.pu : Nat), .bool s.q1.rd, .int .i64 s.q1.r.sz, .int .u32 (s.q1.r.de : Nat), .int .u32 (s.q1.r.av : Nat), .int .u32 (s.q1.r.us : Nat), .int .u16 (s.q1.r.la : Nat), .int .u16 (s.q1.r.pu : Nat)]
def V.drv (s : V) : Array Value := #[.int .u32 (s.d0 : Nat), .int .u32 (s.d1 : Nat)]
theorem Qu.at0 (s : Qu) : s.cells[0]? = some (.bool s.rd) := rfl
theorem Qu.at1 (s : Qu) : s.cells[1]? = some (.int .i64 s.r.sz) := rfl
theorem Qu.at2 (s : Qu) : s.cells[2]? = some (.int .u32 (s.r.de : Nat)) := rfl
theorem Qu.at3 (s : Qu) : s.cells[3]? = some (.int .u32 (s.r.av : Nat)) := rfl
theorem Qu.at4 (s : Qu) : s.cells[4]? = some (.int .u32 (s.r.us : Nat)) := rfl
theorem Qu.at5 (s : Qu) : s.cells[5]? = some (.int .u16 (s.r.la : Nat)) := rfl
theorem Qu.at6 (s : Qu) : s.cells[6]? = some (.int .u16 (s.r.pu : Nat)) := rfl
theorem V.at0 (s : V) : s.cells[0]? = some (.int .u32 (s.st : Nat)) := rfl
theorem V.at1 (s : V) : s.cells[1]? = some (.int .u32 (s.fs : Nat)) := rfl
theorem V.at2 (s : V) : s.cells[2]? = some (.int .u32 (s.ds : Nat)) := rfl
theorem V.at3 (s : V) : s.cells[3]? = some (.int .u32 (s.se : Nat)) := rfl
theorem V.at4 (s : V) : s.cells[4]? = some (.int .u32 (s.ir : Nat)) := rfl
theorem V.at5 (s : V) : s.cells[5]? = some (.int .u32 (s.d0 : Nat)) := rfl
theorem V.at6 (s : V) : s.cells[6]? = some (.int .u32 (s.d1 : Nat)) := rfl
theorem V.at7 (s : V) : s.cells[7]? = some (.bool s.q0.rd) := rfl
theorem V.at8 (s : V) : s.cells[8]? = some (.int .i64 s.q0.r.sz) := rfl
theorem V.at9 (s : V) : s.cells[9]? = some (.int .u32 (s.q0.r.de : Nat)) := rfl
theorem V.at10 (s : V) : s.cells[10]? = some (.int .u32 (s.q0.r.av : Nat)) := rfl
theorem V.at11 (s : V) : s.cells[11]? = some (.int .u32 (s.q0.r.us : Nat)) := rfl
theorem V.at12 (s : V) : s.cells[12]? = some (.int .u16 (s.q0.r.la : Nat)) := rfl
theorem V.at13 (s : V) : s.cells[13]? = some (.int .u16 (s.q0.r.pu : Nat)) := rfl
theorem V.at14 (s : V) : s.cells[14]? = some (.bool s.q1.rd) := rfl
theorem V.at15 (s : V) : s.cells[15]? = some (.int .i64 s.q1.r.sz) := rfl
theorem V.at16 (s : V) : s.cells[16]? = some (.int .u32 (s.q1.r.de : Nat)) := rfl
theorem V.at17 (s : V) : s.cells[17]? = some (.int .u32 (s.q1.r.av : Nat)) := rfl
theorem V.at18 (s : V) : s.cells[18]? = some (.int .u32 (s.q1.r.us : Nat)) := rfl
theorem V.at19 (s : V) : s.cells[19]? = some (.int .u16 (s.q1.r.la : Nat)) := rfl
theorem V.at20 (s : V) : s.cells[20]? = some (.int .u16 (s.q1.r.pu : Nat)) := rfl
theorem qu_one (s : Qu) : s.cells.all (·.oneCell') = true := by simp [Qu.cells, Value.oneCell']
theorem vi_one (s : V) : s.cells.all (·.oneCell') = true := by simp [V.cells, Value.oneCell']
theorem size_drv : (prog.info? 23).map (·.size) = some 2 := by kernel_rfl
theorem size_qs : (prog.info? 37).map (·.size) = some 14 := by kernel_rfl
theorem ext_drv (s : V) : (s.cells.extract 5 (5 + s.drv.size)).toList = s.drv.toList := by kernel_rfl
theorem ext_qs (s : V) : (s.cells.extract 7 (7 + s.qs.size)).toList = s.qs.toList := by kernel_rfl
theorem ext_qur (s : Qu) : (s.cells.extract 1 (1 + s.r.cells.size)).toList = s.r.cells.toList := by kernel_rfl
theorem ext_q0 (s : V) : (s.cells.extract 7 (7 + s.q0.cells.size)).toList = s.q0.cells.toList := by kernel_rfl
theorem ext_r0 (s : V) : (s.cells.extract 8 (8 + s.q0.r.cells.size)).toList = s.q0.r.cells.toList := by kernel_rfl
theorem putAll_q0 (s : V) (q : Qu) : putAll s.cells 7 q.cells.toList = (s.q0w q).cells := by kernel_rfl
theorem index_q0 (s : V) (w : World) : (Instr.index 37 (.agg s.qs) (.int .i64 0)).run prog w = .ok (.agg s.q0.cells) w := by kernel_rfl
theorem ext_q1 (s : V) : (s.cells.extract 14 (14 + s.q1.cells.size)).toList = s.q1.cells.toList := by kernel_rfl
theorem ext_r1 (s : V) : (s.cells.extract 15 (15 + s.q1.r.cells.size)).toList = s.q1.r.cells.toList := by kernel_rfl
theorem putAll_q1 (s : V) (q : Qu) : putAll s.cells 14 q.cells.toList = (s.q1w q).cells := by kernel_rfl
theorem index_q1 (s : V) (w : World) : (Instr.index 37 (.agg s.qs) (.int .i64 1)).run prog w = .ok (.agg s.q1.cells) w := by kernel_rfl
variable {ops : Array Oper} {rest : List Oper} {dst : Option Tmp} {ty : TypeId} {pos : String} {after : Array Edge} {a : Act} {w : World} {Q : Exit → Act → World → Prop} {x y : Operand} {b : Nat} {S : World → Prop} {K : Act → World → Prop} {gd : Option (Nat × Bool)}
theorem size_qp : (prog.info? 36).map (·.size) = some 7 := by kernel_rfl
theorem zero_qp (w : World) : (zeroValue 36).run prog w = .ok (.agg zeroQu.cells) w :=
  (zero_of_info (P := prog) (t := 36) (v := .agg zeroQu.cells) (n := 7) (by kernel_rfl)).1 w
theorem bx_qp (N : Nat) (h : Qu) (hN : w.heap.size = N) (hx : a.eval x = .agg h.cells)
    (k : ∀ W, RowAt W N h.cells 36 → Below N w W → Hid (W.heap.size = N + 1) → wpList prog ops Q rest (a.put dst (.pointer (some ⟨N, 0, none⟩))) W) :
    wpList prog ops Q (⟨dst, .box 36 x, ty, pos, after, none⟩ :: rest) a w := op_box N hN h.cells hx k
theorem al_qp (N : Nat) (hN : w.heap.size = N)
    (k : ∀ W, RowAt W N zeroQu.cells 36 → Below N w W → Hid (W.heap.size = N + 1) → wpList prog ops Q rest (a.put dst (.pointer (some ⟨N, 0, none⟩))) W) :
    wpList prog ops Q (⟨dst, .alloc 36, ty, pos, after, none⟩ :: rest) a w := op_alloc N hN zeroQu.cells zero_qp k
theorem ld_qp (b : Nat) (h : Qu) (hr : RowAt w b h.cells 36) (hx : a.eval x = .pointer (some ⟨b, 0, none⟩)) (hw : Region.wanted ⟨dst, .load 36 x, ty, pos, after, gd⟩ (yielded ops a.tmps) = true)
    (k : wpList prog ops Q rest (a.put dst (.agg h.cells)) w) : wpList prog ops Q (⟨dst, .load 36 x, ty, pos, after, gd⟩ :: rest) a w :=
  BigFrame.wpList_want hw fun K hK => wp_load_row 36 x rfl b hx _ h.cells (0, 0) _ hr underlying36 rfl size_qp (hK _ _ k)
theorem st_qp (b : Nat) (old h : Qu) (hr : RowAt w b old.cells 36) (hx : a.eval x = .pointer (some ⟨b, 0, none⟩)) (hy : a.eval y = .agg h.cells)
    (k : ∀ W, RowAt W b h.cells 36 → Only b w W → wpList prog ops Q rest (a.put dst undef) W) : wpList prog ops Q (⟨dst, .store 36 x y, ty, pos, after, none⟩ :: rest) a w :=
  op_store b hx h.cells hy old.cells _ hr size_qp rfl (qu_one h) k
theorem size_qr : (prog.info? 28).map (·.size) = some 7 := by kernel_rfl
theorem zero_qr (w : World) : (zeroValue 28).run prog w = .ok (.agg zeroQu.cells) w :=
  (zero_of_info (P := prog) (t := 28) (v := .agg zeroQu.cells) (n := 7) (by kernel_rfl)).1 w
theorem al_qr (N : Nat) (hN : w.heap.size = N)
    (k : ∀ W, RowAt W N zeroQu.cells 28 → Below N w W → Hid (W.heap.size = N + 1) → wpList prog ops Q rest (a.put dst (.pointer (some ⟨N, 0, none⟩))) W) :
    wpList prog ops Q (⟨dst, .alloc 28, ty, pos, after, none⟩ :: rest) a w := op_alloc N hN zeroQu.cells zero_qr k
theorem ld_qr (b : Nat) (h : Qu) (hr : RowAt w b h.cells 28) (hx : a.eval x = .pointer (some ⟨b, 0, none⟩)) (hw : Region.wanted ⟨dst, .load 28 x, ty, pos, after, gd⟩ (yielded ops a.tmps) = true)
    (k : wpList prog ops Q rest (a.put dst (.agg h.cells)) w) : wpList prog ops Q (⟨dst, .load 28 x, ty, pos, after, gd⟩ :: rest) a w :=
  BigFrame.wpList_want hw fun K hK => wp_load_row 28 x rfl b hx _ h.cells (0, 0) _ hr underlying28 rfl size_qr (hK _ _ k)
theorem st_qr (b : Nat) (old h : Qu) (hr : RowAt w b old.cells 28) (hx : a.eval x = .pointer (some ⟨b, 0, none⟩)) (hy : a.eval y = .agg h.cells)
    (k : ∀ W, RowAt W b h.cells 28 → Only b w W → wpList prog ops Q rest (a.put dst undef) W) : wpList prog ops Q (⟨dst, .store 28 x y, ty, pos, after, none⟩ :: rest) a w :=
  op_store b hx h.cells hy old.cells _ hr size_qr rfl (qu_one h) k
theorem size_vp : (prog.info? 39).map (·.size) = some 21 := by kernel_rfl
theorem zero_vp (w : World) : (zeroValue 39).run prog w = .ok (.agg zeroV.cells) w :=
  (zero_of_info (P := prog) (t := 39) (v := .agg zeroV.cells) (n := 21) (by kernel_rfl)).1 w
theorem bx_vp (N : Nat) (h : V) (hN : w.heap.size = N) (hx : a.eval x = .agg h.cells)
    (k : ∀ W, RowAt W N h.cells 39 → Below N w W → Hid (W.heap.size = N + 1) → wpList prog ops Q rest (a.put dst (.pointer (some ⟨N, 0, none⟩))) W) :
    wpList prog ops Q (⟨dst, .box 39 x, ty, pos, after, none⟩ :: rest) a w := op_box N hN h.cells hx k
theorem al_vp (N : Nat) (hN : w.heap.size = N)
    (k : ∀ W, RowAt W N zeroV.cells 39 → Below N w W → Hid (W.heap.size = N + 1) → wpList prog ops Q rest (a.put dst (.pointer (some ⟨N, 0, none⟩))) W) :
    wpList prog ops Q (⟨dst, .alloc 39, ty, pos, after, none⟩ :: rest) a w := op_alloc N hN zeroV.cells zero_vp k
theorem ld_vp (b : Nat) (h : V) (hr : RowAt w b h.cells 39) (hx : a.eval x = .pointer (some ⟨b, 0, none⟩)) (hw : Region.wanted ⟨dst, .load 39 x, ty, pos, after, gd⟩ (yielded ops a.tmps) = true)
    (k : wpList prog ops Q rest (a.put dst (.agg h.cells)) w) : wpList prog ops Q (⟨dst, .load 39 x, ty, pos, after, gd⟩ :: rest) a w :=
  BigFrame.wpList_want hw fun K hK => wp_load_row 39 x rfl b hx _ h.cells (0, 0) _ hr underlying39 rfl size_vp (hK _ _ k)
theorem st_vp (b : Nat) (old h : V) (hr : RowAt w b old.cells 39) (hx : a.eval x = .pointer (some ⟨b, 0, none⟩)) (hy : a.eval y = .agg h.cells)
    (k : ∀ W, RowAt W b h.cells 39 → Only b w W → wpList prog ops Q rest (a.put dst undef) W) : wpList prog ops Q (⟨dst, .store 39 x y, ty, pos, after, none⟩ :: rest) a w :=
  op_store b hx h.cells hy old.cells _ hr size_vp rfl (vi_one h) k
theorem y_vp (b : Nat) (h : V) (hS : ∀ V, S V → RowAt V b h.cells 39) (hx : a.eval x = .pointer (some ⟨b, 0, none⟩)) (hw : Region.wanted ⟨dst, .load 39 x, ty, pos, after, gd⟩ (yielded ops a.tmps) = true) :
    YieldsIf prog ops S ⟨dst, .load 39 x, ty, pos, after, gd⟩ (.agg h.cells) a := by
  rcases y_load (ops := ops) (P := prog) (t := 39) (dst := dst) (ty := ty) (after := after) (a := a) (x := x) (pos := pos) (S := S) b h.cells _ hS _ underlying39 rfl size_vp hx with ⟨_, h2⟩ | ⟨h1, _⟩
  · exact .inl ⟨hw, fun V hV => h2 V hV⟩
  · simp [Region.wanted] at h1
theorem s_vp (b : Nat) (old h : V) (hr : RowAt w b old.cells 39) (hx : a.eval x = .pointer (some ⟨b, 0, none⟩)) (hy : a.eval y = .agg h.cells)
    (k : ∀ W, RowAt W b h.cells 39 → Only b w W → K (a.put dst undef) W) :
    Oper.wp prog ⟨dst, .store 39 x y, ty, pos, after, none⟩ a w K Q :=
  s_store b hx h.cells hy old.cells _ hr size_vp rfl (vi_one h) k
theorem size_vr : (prog.info? 31).map (·.size) = some 21 := by kernel_rfl
theorem zero_vr (w : World) : (zeroValue 31).run prog w = .ok (.agg zeroV.cells) w :=
  (zero_of_info (P := prog) (t := 31) (v := .agg zeroV.cells) (n := 21) (by kernel_rfl)).1 w
theorem bx_vr (N : Nat) (h : V) (hN : w.heap.size = N) (hx : a.eval x = .agg h.cells)
    (k : ∀ W, RowAt W N h.cells 31 → Below N w W → Hid (W.heap.size = N + 1) → wpList prog ops Q rest (a.put dst (.pointer (some ⟨N, 0, none⟩))) W) :
    wpList prog ops Q (⟨dst, .box 31 x, ty, pos, after, none⟩ :: rest) a w := op_box N hN h.cells hx k
theorem al_vr (N : Nat) (hN : w.heap.size = N)
    (k : ∀ W, RowAt W N zeroV.cells 31 → Below N w W → Hid (W.heap.size = N + 1) → wpList prog ops Q rest (a.put dst (.pointer (some ⟨N, 0, none⟩))) W) :
    wpList prog ops Q (⟨dst, .alloc 31, ty, pos, after, none⟩ :: rest) a w := op_alloc N hN zeroV.cells zero_vr k
theorem ld_vr (b : Nat) (h : V) (hr : RowAt w b h.cells 31) (hx : a.eval x = .pointer (some ⟨b, 0, none⟩)) (hw : Region.wanted ⟨dst, .load 31 x, ty, pos, after, gd⟩ (yielded ops a.tmps) = true)
    (k : wpList prog ops Q rest (a.put dst (.agg h.cells)) w) : wpList prog ops Q (⟨dst, .load 31 x, ty, pos, after, gd⟩ :: rest) a w :=
  BigFrame.wpList_want hw fun K hK => wp_load_row 31 x rfl b hx _ h.cells (0, 0) _ hr underlying31 rfl size_vr (hK _ _ k)
theorem st_vr (b : Nat) (old h : V) (hr : RowAt w b old.cells 31) (hx : a.eval x = .pointer (some ⟨b, 0, none⟩)) (hy : a.eval y = .agg h.cells)
    (k : ∀ W, RowAt W b h.cells 31 → Only b w W → wpList prog ops Q rest (a.put dst undef) W) : wpList prog ops Q (⟨dst, .store 31 x y, ty, pos, after, none⟩ :: rest) a w :=
  op_store b hx h.cells hy old.cells _ hr size_vr rfl (vi_one h) k
theorem ld_drv (b : Nat) (h : V) (t' : TypeId) (hr : RowAt w b h.cells t') (hx : a.eval x = .pointer (some ⟨b, 5, none⟩)) (hw : Region.wanted ⟨dst, .load 23 x, ty, pos, after, gd⟩ (yielded ops a.tmps) = true)
    (k : wpList prog ops Q rest (a.put dst (.agg h.drv)) w) : wpList prog ops Q (⟨dst, .load 23 x, ty, pos, after, gd⟩ :: rest) a w :=
  BigFrame.wpList_want hw fun K hK => wp_load_mid 23 x rfl b 5 hx h.drv.toList _ (ext_drv h ▸ World.rangeAt_of_block hr 5 h.drv.size) underlying23 rfl size_drv (hK _ _ k)
theorem ld_qs (b : Nat) (h : V) (t' : TypeId) (hr : RowAt w b h.cells t') (hx : a.eval x = .pointer (some ⟨b, 7, none⟩)) (hw : Region.wanted ⟨dst, .load 37 x, ty, pos, after, gd⟩ (yielded ops a.tmps) = true)
    (k : wpList prog ops Q rest (a.put dst (.agg h.qs)) w) : wpList prog ops Q (⟨dst, .load 37 x, ty, pos, after, gd⟩ :: rest) a w :=
  BigFrame.wpList_want hw fun K hK => wp_load_mid 37 x rfl b 7 hx h.qs.toList _ (ext_qs h ▸ World.rangeAt_of_block hr 7 h.qs.size) underlying37 rfl size_qs (hK _ _ k)
theorem ld_qurp (b : Nat) (h : Qu) (t' : TypeId) (hr : RowAt w b h.cells t') (hx : a.eval x = .pointer (some ⟨b, 1, none⟩)) (hw : Region.wanted ⟨dst, .load 34 x, ty, pos, after, gd⟩ (yielded ops a.tmps) = true)
    (k : wpList prog ops Q rest (a.put dst (.agg h.r.cells)) w) : wpList prog ops Q (⟨dst, .load 34 x, ty, pos, after, gd⟩ :: rest) a w :=
  BigFrame.wpList_want hw fun K hK => wp_load_mid 34 x rfl b 1 hx h.r.cells.toList _ (ext_qur h ▸ World.rangeAt_of_block hr 1 h.r.cells.size) underlying34 rfl size_rp (hK _ _ k)
theorem ld_q0p (b : Nat) (h : V) (t' : TypeId) (hr : RowAt w b h.cells t') (hx : a.eval x = .pointer (some ⟨b, 7, none⟩)) (hw : Region.wanted ⟨dst, .load 36 x, ty, pos, after, gd⟩ (yielded ops a.tmps) = true)
    (k : wpList prog ops Q rest (a.put dst (.agg h.q0.cells)) w) : wpList prog ops Q (⟨dst, .load 36 x, ty, pos, after, gd⟩ :: rest) a w :=
  BigFrame.wpList_want hw fun K hK => wp_load_mid 36 x rfl b 7 hx h.q0.cells.toList _ (ext_q0 h ▸ World.rangeAt_of_block hr 7 h.q0.cells.size) underlying36 rfl size_qp (hK _ _ k)
theorem ld_r0p (b : Nat) (h : V) (t' : TypeId) (hr : RowAt w b h.cells t') (hx : a.eval x = .pointer (some ⟨b, 8, none⟩)) (hw : Region.wanted ⟨dst, .load 34 x, ty, pos, after, gd⟩ (yielded ops a.tmps) = true)
    (k : wpList prog ops Q rest (a.put dst (.agg h.q0.r.cells)) w) : wpList prog ops Q (⟨dst, .load 34 x, ty, pos, after, gd⟩ :: rest) a w :=
  BigFrame.wpList_want hw fun K hK => wp_load_mid 34 x rfl b 8 hx h.q0.r.cells.toList _ (ext_r0 h ▸ World.rangeAt_of_block hr 8 h.q0.r.cells.size) underlying34 rfl size_rp (hK _ _ k)
theorem ld_q1p (b : Nat) (h : V) (t' : TypeId) (hr : RowAt w b h.cells t') (hx : a.eval x = .pointer (some ⟨b, 14, none⟩)) (hw : Region.wanted ⟨dst, .load 36 x, ty, pos, after, gd⟩ (yielded ops a.tmps) = true)
    (k : wpList prog ops Q rest (a.put dst (.agg h.q1.cells)) w) : wpList prog ops Q (⟨dst, .load 36 x, ty, pos, after, gd⟩ :: rest) a w :=
  BigFrame.wpList_want hw fun K hK => wp_load_mid 36 x rfl b 14 hx h.q1.cells.toList _ (ext_q1 h ▸ World.rangeAt_of_block hr 14 h.q1.cells.size) underlying36 rfl size_qp (hK _ _ k)
theorem ld_r1p (b : Nat) (h : V) (t' : TypeId) (hr : RowAt w b h.cells t') (hx : a.eval x = .pointer (some ⟨b, 15, none⟩)) (hw : Region.wanted ⟨dst, .load 34 x, ty, pos, after, gd⟩ (yielded ops a.tmps) = true)
    (k : wpList prog ops Q rest (a.put dst (.agg h.q1.r.cells)) w) : wpList prog ops Q (⟨dst, .load 34 x, ty, pos, after, gd⟩ :: rest) a w :=
  BigFrame.wpList_want hw fun K hK => wp_load_mid 34 x rfl b 15 hx h.q1.r.cells.toList _ (ext_r1 h ▸ World.rangeAt_of_block hr 15 h.q1.r.cells.size) underlying34 rfl size_rp (hK _ _ k)
theorem ld_qurr (b : Nat) (h : Qu) (t' : TypeId) (hr : RowAt w b h.cells t') (hx : a.eval x = .pointer (some ⟨b, 1, none⟩)) (hw : Region.wanted ⟨dst, .load 26 x, ty, pos, after, gd⟩ (yielded ops a.tmps) = true)
    (k : wpList prog ops Q rest (a.put dst (.agg h.r.cells)) w) : wpList prog ops Q (⟨dst, .load 26 x, ty, pos, after, gd⟩ :: rest) a w :=
  BigFrame.wpList_want hw fun K hK => wp_load_mid 26 x rfl b 1 hx h.r.cells.toList _ (ext_qur h ▸ World.rangeAt_of_block hr 1 h.r.cells.size) underlying26 rfl size_rr (hK _ _ k)
theorem ld_q0r (b : Nat) (h : V) (t' : TypeId) (hr : RowAt w b h.cells t') (hx : a.eval x = .pointer (some ⟨b, 7, none⟩)) (hw : Region.wanted ⟨dst, .load 28 x, ty, pos, after, gd⟩ (yielded ops a.tmps) = true)
    (k : wpList prog ops Q rest (a.put dst (.agg h.q0.cells)) w) : wpList prog ops Q (⟨dst, .load 28 x, ty, pos, after, gd⟩ :: rest) a w :=
  BigFrame.wpList_want hw fun K hK => wp_load_mid 28 x rfl b 7 hx h.q0.cells.toList _ (ext_q0 h ▸ World.rangeAt_of_block hr 7 h.q0.cells.size) underlying28 rfl size_qr (hK _ _ k)
theorem st_q0r (b : Nat) (h : V) (f : Qu) (t' : TypeId) (hr : RowAt w b h.cells t') (hx : a.eval x = .pointer (some ⟨b, 7, none⟩)) (hy : a.eval y = .agg f.cells)
    (k : ∀ W, RowAt W b (h.q0w f).cells t' → Only b w W → wpList prog ops Q rest (a.put dst undef) W) : wpList prog ops Q (⟨dst, .store 28 x y, ty, pos, after, none⟩ :: rest) a w :=
  op_store_mid b 7 hx f.cells hy h.cells _ _ hr size_qr (by show 7 + 7 ≤ 21; decide) (qu_one f) (putAll_q0 h f) k
theorem ld_q1r (b : Nat) (h : V) (t' : TypeId) (hr : RowAt w b h.cells t') (hx : a.eval x = .pointer (some ⟨b, 14, none⟩)) (hw : Region.wanted ⟨dst, .load 28 x, ty, pos, after, gd⟩ (yielded ops a.tmps) = true)
    (k : wpList prog ops Q rest (a.put dst (.agg h.q1.cells)) w) : wpList prog ops Q (⟨dst, .load 28 x, ty, pos, after, gd⟩ :: rest) a w :=
  BigFrame.wpList_want hw fun K hK => wp_load_mid 28 x rfl b 14 hx h.q1.cells.toList _ (ext_q1 h ▸ World.rangeAt_of_block hr 14 h.q1.cells.size) underlying28 rfl size_qr (hK _ _ k)
theorem st_q1r (b : Nat) (h : V) (f : Qu) (t' : TypeId) (hr : RowAt w b h.cells t') (hx : a.eval x = .pointer (some ⟨b, 14, none⟩)) (hy : a.eval y = .agg f.cells)
    (k : ∀ W, RowAt W b (h.q1w f).cells t' → Only b w W → wpList prog ops Q rest (a.put dst undef) W) : wpList prog ops Q (⟨dst, .store 28 x y, ty, pos, after, none⟩ :: rest) a w :=
  op_store_mid b 14 hx f.cells hy h.cells _ _ hr size_qr (by show 14 + 7 ≤ 21; decide) (qu_one f) (putAll_q1 h f) k
theorem ld_st (b : Nat) (h : V) (t' : TypeId) (hr : RowAt w b h.cells t') (hx : a.eval x = .pointer (some ⟨b, 0, none⟩)) (hw : Region.wanted ⟨dst, .load 22 x, ty, pos, after, gd⟩ (yielded ops a.tmps) = true)
    (k : wpList prog ops Q rest (a.put dst (.int .u32 (h.st : Nat))) w) : wpList prog ops Q (⟨dst, .load 22 x, ty, pos, after, gd⟩ :: rest) a w :=
  op_load_cellg b 0 hx h.cells _ _ hr rfl _ underlying22 rfl hw k
theorem st_st (b : Nat) (h : V) (n : Nat) (t' : TypeId) (hr : RowAt w b h.cells t') (hx : a.eval x = .pointer (some ⟨b, 0, none⟩)) (hy : a.eval y = .int .u32 (n : Nat))
    (k : ∀ W, RowAt W b (h.stw n).cells t' → Only b w W → wpList prog ops Q rest (a.put dst undef) W) : wpList prog ops Q (⟨dst, .store 22 x y, ty, pos, after, none⟩ :: rest) a w :=
  op_store_cell b 0 hx _ hy h.cells _ _ hr size_u32i (by show 0 < 21; decide) rfl rfl k
theorem st_fs (b : Nat) (h : V) (n : Nat) (t' : TypeId) (hr : RowAt w b h.cells t') (hx : a.eval x = .pointer (some ⟨b, 1, none⟩)) (hy : a.eval y = .int .u32 (n : Nat))
    (k : ∀ W, RowAt W b (h.fsw n).cells t' → Only b w W → wpList prog ops Q rest (a.put dst undef) W) : wpList prog ops Q (⟨dst, .store 22 x y, ty, pos, after, none⟩ :: rest) a w :=
  op_store_cell b 1 hx _ hy h.cells _ _ hr size_u32i (by show 1 < 21; decide) rfl rfl k
theorem st_ds (b : Nat) (h : V) (n : Nat) (t' : TypeId) (hr : RowAt w b h.cells t') (hx : a.eval x = .pointer (some ⟨b, 2, none⟩)) (hy : a.eval y = .int .u32 (n : Nat))
    (k : ∀ W, RowAt W b (h.dsw n).cells t' → Only b w W → wpList prog ops Q rest (a.put dst undef) W) : wpList prog ops Q (⟨dst, .store 22 x y, ty, pos, after, none⟩ :: rest) a w :=
  op_store_cell b 2 hx _ hy h.cells _ _ hr size_u32i (by show 2 < 21; decide) rfl rfl k
theorem ld_se (b : Nat) (h : V) (t' : TypeId) (hr : RowAt w b h.cells t') (hx : a.eval x = .pointer (some ⟨b, 3, none⟩)) (hw : Region.wanted ⟨dst, .load 22 x, ty, pos, after, gd⟩ (yielded ops a.tmps) = true)
    (k : wpList prog ops Q rest (a.put dst (.int .u32 (h.se : Nat))) w) : wpList prog ops Q (⟨dst, .load 22 x, ty, pos, after, gd⟩ :: rest) a w :=
  op_load_cellg b 3 hx h.cells _ _ hr rfl _ underlying22 rfl hw k
theorem st_se (b : Nat) (h : V) (n : Nat) (t' : TypeId) (hr : RowAt w b h.cells t') (hx : a.eval x = .pointer (some ⟨b, 3, none⟩)) (hy : a.eval y = .int .u32 (n : Nat))
    (k : ∀ W, RowAt W b (h.sew n).cells t' → Only b w W → wpList prog ops Q rest (a.put dst undef) W) : wpList prog ops Q (⟨dst, .store 22 x y, ty, pos, after, none⟩ :: rest) a w :=
  op_store_cell b 3 hx _ hy h.cells _ _ hr size_u32i (by show 3 < 21; decide) rfl rfl k
theorem ld_ir (b : Nat) (h : V) (t' : TypeId) (hr : RowAt w b h.cells t') (hx : a.eval x = .pointer (some ⟨b, 4, none⟩)) (hw : Region.wanted ⟨dst, .load 22 x, ty, pos, after, gd⟩ (yielded ops a.tmps) = true)
    (k : wpList prog ops Q rest (a.put dst (.int .u32 (h.ir : Nat))) w) : wpList prog ops Q (⟨dst, .load 22 x, ty, pos, after, gd⟩ :: rest) a w :=
  op_load_cellg b 4 hx h.cells _ _ hr rfl _ underlying22 rfl hw k
theorem st_ir (b : Nat) (h : V) (n : Nat) (t' : TypeId) (hr : RowAt w b h.cells t') (hx : a.eval x = .pointer (some ⟨b, 4, none⟩)) (hy : a.eval y = .int .u32 (n : Nat))
    (k : ∀ W, RowAt W b (h.irw n).cells t' → Only b w W → wpList prog ops Q rest (a.put dst undef) W) : wpList prog ops Q (⟨dst, .store 22 x y, ty, pos, after, none⟩ :: rest) a w :=
  op_store_cell b 4 hx _ hy h.cells _ _ hr size_u32i (by show 4 < 21; decide) rfl rfl k
theorem st_d0 (b : Nat) (h : V) (n : Nat) (t' : TypeId) (hr : RowAt w b h.cells t') (hx : a.eval x = .pointer (some ⟨b, 5, none⟩)) (hy : a.eval y = .int .u32 (n : Nat))
    (k : ∀ W, RowAt W b (h.d0w n).cells t' → Only b w W → wpList prog ops Q rest (a.put dst undef) W) : wpList prog ops Q (⟨dst, .store 22 x y, ty, pos, after, none⟩ :: rest) a w :=
  op_store_cell b 5 hx _ hy h.cells _ _ hr size_u32i (by show 5 < 21; decide) rfl rfl k
theorem st_d1 (b : Nat) (h : V) (n : Nat) (t' : TypeId) (hr : RowAt w b h.cells t') (hx : a.eval x = .pointer (some ⟨b, 6, none⟩)) (hy : a.eval y = .int .u32 (n : Nat))
    (k : ∀ W, RowAt W b (h.d1w n).cells t' → Only b w W → wpList prog ops Q rest (a.put dst undef) W) : wpList prog ops Q (⟨dst, .store 22 x y, ty, pos, after, none⟩ :: rest) a w :=
  op_store_cell b 6 hx _ hy h.cells _ _ hr size_u32i (by show 6 < 21; decide) rfl rfl k
theorem st_rd0 (b : Nat) (h : V) (n : Bool) (t' : TypeId) (hr : RowAt w b h.cells t') (hx : a.eval x = .pointer (some ⟨b, 7, none⟩)) (hy : a.eval y = .bool n)
    (k : ∀ W, RowAt W b (h.q0w (h.q0.rdw n)).cells t' → Only b w W → wpList prog ops Q rest (a.put dst undef) W) : wpList prog ops Q (⟨dst, .store 4 x y, ty, pos, after, none⟩ :: rest) a w :=
  op_store_cell b 7 hx _ hy h.cells _ _ hr size_boi (by show 7 < 21; decide) rfl rfl k
theorem y_rd0 (b : Nat) (h : V) (t' : TypeId) (hS : ∀ V, S V → RowAt V b h.cells t') (hx : a.eval x = .pointer (some ⟨b, 7, none⟩)) :
    YieldsIf prog ops S ⟨dst, .load 4 x, ty, pos, after, none⟩ (.bool h.q0.rd) a := y_cell b 7 _ (fun V hV => ((hS V hV).cell 7).trans rfl) _ underlying4 rfl hx
theorem ld_rd1 (b : Nat) (h : V) (t' : TypeId) (hr : RowAt w b h.cells t') (hx : a.eval x = .pointer (some ⟨b, 14, none⟩)) (hw : Region.wanted ⟨dst, .load 4 x, ty, pos, after, gd⟩ (yielded ops a.tmps) = true)
    (k : wpList prog ops Q rest (a.put dst (.bool h.q1.rd)) w) : wpList prog ops Q (⟨dst, .load 4 x, ty, pos, after, gd⟩ :: rest) a w :=
  op_load_cellg b 14 hx h.cells _ _ hr rfl _ underlying4 rfl hw k
theorem st_rd1 (b : Nat) (h : V) (n : Bool) (t' : TypeId) (hr : RowAt w b h.cells t') (hx : a.eval x = .pointer (some ⟨b, 14, none⟩)) (hy : a.eval y = .bool n)
    (k : ∀ W, RowAt W b (h.q1w (h.q1.rdw n)).cells t' → Only b w W → wpList prog ops Q rest (a.put dst undef) W) : wpList prog ops Q (⟨dst, .store 4 x y, ty, pos, after, none⟩ :: rest) a w :=
  op_store_cell b 14 hx _ hy h.cells _ _ hr size_boi (by show 14 < 21; decide) rfl rfl k
theorem y_rd1 (b : Nat) (h : V) (t' : TypeId) (hS : ∀ V, S V → RowAt V b h.cells t') (hx : a.eval x = .pointer (some ⟨b, 14, none⟩)) :
    YieldsIf prog ops S ⟨dst, .load 4 x, ty, pos, after, none⟩ (.bool h.q1.rd) a := y_cell b 14 _ (fun V hV => ((hS V hV).cell 14).trans rfl) _ underlying4 rfl hx
theorem ld_urd (b : Nat) (h : Qu) (t' : TypeId) (hr : RowAt w b h.cells t') (hx : a.eval x = .pointer (some ⟨b, 0, none⟩)) (hw : Region.wanted ⟨dst, .load 4 x, ty, pos, after, gd⟩ (yielded ops a.tmps) = true)
    (k : wpList prog ops Q rest (a.put dst (.bool h.rd)) w) : wpList prog ops Q (⟨dst, .load 4 x, ty, pos, after, gd⟩ :: rest) a w :=
  op_load_cellg b 0 hx h.cells _ _ hr rfl _ underlying4 rfl hw k
theorem st_urd (b : Nat) (h : Qu) (n : Bool) (t' : TypeId) (hr : RowAt w b h.cells t') (hx : a.eval x = .pointer (some ⟨b, 0, none⟩)) (hy : a.eval y = .bool n)
    (k : ∀ W, RowAt W b (h.rdw n).cells t' → Only b w W → wpList prog ops Q rest (a.put dst undef) W) : wpList prog ops Q (⟨dst, .store 4 x y, ty, pos, after, none⟩ :: rest) a w :=
  op_store_cell b 0 hx _ hy h.cells _ _ hr size_boi (by show 0 < 7; decide) rfl rfl k
theorem st_sz0 (b : Nat) (h : V) (n : Int) (t' : TypeId) (hr : RowAt w b h.cells t') (hx : a.eval x = .pointer (some ⟨b, 8, none⟩)) (hy : a.eval y = .int .i64 n)
    (k : ∀ W, RowAt W b (h.q0w (h.q0.rw' (h.q0.r.szw n))).cells t' → Only b w W → wpList prog ops Q rest (a.put dst undef) W) : wpList prog ops Q (⟨dst, .store 3 x y, ty, pos, after, none⟩ :: rest) a w :=
  op_store_cell b 8 hx _ hy h.cells _ _ hr size_i64i (by show 8 < 21; decide) rfl rfl k
theorem st_sz1 (b : Nat) (h : V) (n : Int) (t' : TypeId) (hr : RowAt w b h.cells t') (hx : a.eval x = .pointer (some ⟨b, 15, none⟩)) (hy : a.eval y = .int .i64 n)
    (k : ∀ W, RowAt W b (h.q1w (h.q1.rw' (h.q1.r.szw n))).cells t' → Only b w W → wpList prog ops Q rest (a.put dst undef) W) : wpList prog ops Q (⟨dst, .store 3 x y, ty, pos, after, none⟩ :: rest) a w :=
  op_store_cell b 15 hx _ hy h.cells _ _ hr size_i64i (by show 15 < 21; decide) rfl rfl k
theorem ld_usz (b : Nat) (h : Qu) (t' : TypeId) (hr : RowAt w b h.cells t') (hx : a.eval x = .pointer (some ⟨b, 1, none⟩)) (hw : Region.wanted ⟨dst, .load 3 x, ty, pos, after, gd⟩ (yielded ops a.tmps) = true)
    (k : wpList prog ops Q rest (a.put dst (.int .i64 h.r.sz)) w) : wpList prog ops Q (⟨dst, .load 3 x, ty, pos, after, gd⟩ :: rest) a w :=
  op_load_cellg b 1 hx h.cells _ _ hr rfl _ underlying3 rfl hw k
theorem st_usz (b : Nat) (h : Qu) (n : Int) (t' : TypeId) (hr : RowAt w b h.cells t') (hx : a.eval x = .pointer (some ⟨b, 1, none⟩)) (hy : a.eval y = .int .i64 n)
    (k : ∀ W, RowAt W b (h.rw' (h.r.szw n)).cells t' → Only b w W → wpList prog ops Q rest (a.put dst undef) W) : wpList prog ops Q (⟨dst, .store 3 x y, ty, pos, after, none⟩ :: rest) a w :=
  op_store_cell b 1 hx _ hy h.cells _ _ hr size_i64i (by show 1 < 7; decide) rfl rfl k
theorem st_de0 (b : Nat) (h : V) (n : Nat) (t' : TypeId) (hr : RowAt w b h.cells t') (hx : a.eval x = .pointer (some ⟨b, 9, none⟩)) (hy : a.eval y = .int .u32 (n : Nat))
    (k : ∀ W, RowAt W b (h.q0w (h.q0.rw' (h.q0.r.dew n))).cells t' → Only b w W → wpList prog ops Q rest (a.put dst undef) W) : wpList prog ops Q (⟨dst, .store 22 x y, ty, pos, after, none⟩ :: rest) a w :=
  op_store_cell b 9 hx _ hy h.cells _ _ hr size_u32i (by show 9 < 21; decide) rfl rfl k
theorem st_de1 (b : Nat) (h : V) (n : Nat) (t' : TypeId) (hr : RowAt w b h.cells t') (hx : a.eval x = .pointer (some ⟨b, 16, none⟩)) (hy : a.eval y = .int .u32 (n : Nat))
    (k : ∀ W, RowAt W b (h.q1w (h.q1.rw' (h.q1.r.dew n))).cells t' → Only b w W → wpList prog ops Q rest (a.put dst undef) W) : wpList prog ops Q (⟨dst, .store 22 x y, ty, pos, after, none⟩ :: rest) a w :=
  op_store_cell b 16 hx _ hy h.cells _ _ hr size_u32i (by show 16 < 21; decide) rfl rfl k
theorem ld_ude (b : Nat) (h : Qu) (t' : TypeId) (hr : RowAt w b h.cells t') (hx : a.eval x = .pointer (some ⟨b, 2, none⟩)) (hw : Region.wanted ⟨dst, .load 22 x, ty, pos, after, gd⟩ (yielded ops a.tmps) = true)
    (k : wpList prog ops Q rest (a.put dst (.int .u32 (h.r.de : Nat))) w) : wpList prog ops Q (⟨dst, .load 22 x, ty, pos, after, gd⟩ :: rest) a w :=
  op_load_cellg b 2 hx h.cells _ _ hr rfl _ underlying22 rfl hw k
theorem st_ude (b : Nat) (h : Qu) (n : Nat) (t' : TypeId) (hr : RowAt w b h.cells t') (hx : a.eval x = .pointer (some ⟨b, 2, none⟩)) (hy : a.eval y = .int .u32 (n : Nat))
    (k : ∀ W, RowAt W b (h.rw' (h.r.dew n)).cells t' → Only b w W → wpList prog ops Q rest (a.put dst undef) W) : wpList prog ops Q (⟨dst, .store 22 x y, ty, pos, after, none⟩ :: rest) a w :=
  op_store_cell b 2 hx _ hy h.cells _ _ hr size_u32i (by show 2 < 7; decide) rfl rfl k
theorem st_av0 (b : Nat) (h : V) (n : Nat) (t' : TypeId) (hr : RowAt w b h.cells t') (hx : a.eval x = .pointer (some ⟨b, 10, none⟩)) (hy : a.eval y = .int .u32 (n : Nat))
    (k : ∀ W, RowAt W b (h.q0w (h.q0.rw' (h.q0.r.avw n))).cells t' → Only b w W → wpList prog ops Q rest (a.put dst undef) W) : wpList prog ops Q (⟨dst, .store 22 x y, ty, pos, after, none⟩ :: rest) a w :=
  op_store_cell b 10 hx _ hy h.cells _ _ hr size_u32i (by show 10 < 21; decide) rfl rfl k
theorem st_av1 (b : Nat) (h : V) (n : Nat) (t' : TypeId) (hr : RowAt w b h.cells t') (hx : a.eval x = .pointer (some ⟨b, 17, none⟩)) (hy : a.eval y = .int .u32 (n : Nat))
    (k : ∀ W, RowAt W b (h.q1w (h.q1.rw' (h.q1.r.avw n))).cells t' → Only b w W → wpList prog ops Q rest (a.put dst undef) W) : wpList prog ops Q (⟨dst, .store 22 x y, ty, pos, after, none⟩ :: rest) a w :=
  op_store_cell b 17 hx _ hy h.cells _ _ hr size_u32i (by show 17 < 21; decide) rfl rfl k
theorem ld_uav (b : Nat) (h : Qu) (t' : TypeId) (hr : RowAt w b h.cells t') (hx : a.eval x = .pointer (some ⟨b, 3, none⟩)) (hw : Region.wanted ⟨dst, .load 22 x, ty, pos, after, gd⟩ (yielded ops a.tmps) = true)
    (k : wpList prog ops Q rest (a.put dst (.int .u32 (h.r.av : Nat))) w) : wpList prog ops Q (⟨dst, .load 22 x, ty, pos, after, gd⟩ :: rest) a w :=
  op_load_cellg b 3 hx h.cells _ _ hr rfl _ underlying22 rfl hw k
theorem st_uav (b : Nat) (h : Qu) (n : Nat) (t' : TypeId) (hr : RowAt w b h.cells t') (hx : a.eval x = .pointer (some ⟨b, 3, none⟩)) (hy : a.eval y = .int .u32 (n : Nat))
    (k : ∀ W, RowAt W b (h.rw' (h.r.avw n)).cells t' → Only b w W → wpList prog ops Q rest (a.put dst undef) W) : wpList prog ops Q (⟨dst, .store 22 x y, ty, pos, after, none⟩ :: rest) a w :=
  op_store_cell b 3 hx _ hy h.cells _ _ hr size_u32i (by show 3 < 7; decide) rfl rfl k
theorem st_us0 (b : Nat) (h : V) (n : Nat) (t' : TypeId) (hr : RowAt w b h.cells t') (hx : a.eval x = .pointer (some ⟨b, 11, none⟩)) (hy : a.eval y = .int .u32 (n : Nat))
    (k : ∀ W, RowAt W b (h.q0w (h.q0.rw' (h.q0.r.usw n))).cells t' → Only b w W → wpList prog ops Q rest (a.put dst undef) W) : wpList prog ops Q (⟨dst, .store 22 x y, ty, pos, after, none⟩ :: rest) a w :=
  op_store_cell b 11 hx _ hy h.cells _ _ hr size_u32i (by show 11 < 21; decide) rfl rfl k
theorem st_us1 (b : Nat) (h : V) (n : Nat) (t' : TypeId) (hr : RowAt w b h.cells t') (hx : a.eval x = .pointer (some ⟨b, 18, none⟩)) (hy : a.eval y = .int .u32 (n : Nat))
    (k : ∀ W, RowAt W b (h.q1w (h.q1.rw' (h.q1.r.usw n))).cells t' → Only b w W → wpList prog ops Q rest (a.put dst undef) W) : wpList prog ops Q (⟨dst, .store 22 x y, ty, pos, after, none⟩ :: rest) a w :=
  op_store_cell b 18 hx _ hy h.cells _ _ hr size_u32i (by show 18 < 21; decide) rfl rfl k
theorem ld_uus (b : Nat) (h : Qu) (t' : TypeId) (hr : RowAt w b h.cells t') (hx : a.eval x = .pointer (some ⟨b, 4, none⟩)) (hw : Region.wanted ⟨dst, .load 22 x, ty, pos, after, gd⟩ (yielded ops a.tmps) = true)
    (k : wpList prog ops Q rest (a.put dst (.int .u32 (h.r.us : Nat))) w) : wpList prog ops Q (⟨dst, .load 22 x, ty, pos, after, gd⟩ :: rest) a w :=
  op_load_cellg b 4 hx h.cells _ _ hr rfl _ underlying22 rfl hw k
theorem st_uus (b : Nat) (h : Qu) (n : Nat) (t' : TypeId) (hr : RowAt w b h.cells t') (hx : a.eval x = .pointer (some ⟨b, 4, none⟩)) (hy : a.eval y = .int .u32 (n : Nat))
    (k : ∀ W, RowAt W b (h.rw' (h.r.usw n)).cells t' → Only b w W → wpList prog ops Q rest (a.put dst undef) W) : wpList prog ops Q (⟨dst, .store 22 x y, ty, pos, after, none⟩ :: rest) a w :=
  op_store_cell b 4 hx _ hy h.cells _ _ hr size_u32i (by show 4 < 7; decide) rfl rfl k
theorem st_la0 (b : Nat) (h : V) (n : Nat) (t' : TypeId) (hr : RowAt w b h.cells t') (hx : a.eval x = .pointer (some ⟨b, 12, none⟩)) (hy : a.eval y = .int .u16 (n : Nat))
    (k : ∀ W, RowAt W b (h.q0w (h.q0.rw' (h.q0.r.law n))).cells t' → Only b w W → wpList prog ops Q rest (a.put dst undef) W) : wpList prog ops Q (⟨dst, .store 24 x y, ty, pos, after, none⟩ :: rest) a w :=
  op_store_cell b 12 hx _ hy h.cells _ _ hr size_u16i (by show 12 < 21; decide) rfl rfl k
theorem st_la1 (b : Nat) (h : V) (n : Nat) (t' : TypeId) (hr : RowAt w b h.cells t') (hx : a.eval x = .pointer (some ⟨b, 19, none⟩)) (hy : a.eval y = .int .u16 (n : Nat))
    (k : ∀ W, RowAt W b (h.q1w (h.q1.rw' (h.q1.r.law n))).cells t' → Only b w W → wpList prog ops Q rest (a.put dst undef) W) : wpList prog ops Q (⟨dst, .store 24 x y, ty, pos, after, none⟩ :: rest) a w :=
  op_store_cell b 19 hx _ hy h.cells _ _ hr size_u16i (by show 19 < 21; decide) rfl rfl k
theorem st_pu0 (b : Nat) (h : V) (n : Nat) (t' : TypeId) (hr : RowAt w b h.cells t') (hx : a.eval x = .pointer (some ⟨b, 13, none⟩)) (hy : a.eval y = .int .u16 (n : Nat))
    (k : ∀ W, RowAt W b (h.q0w (h.q0.rw' (h.q0.r.puw n))).cells t' → Only b w W → wpList prog ops Q rest (a.put dst undef) W) : wpList prog ops Q (⟨dst, .store 24 x y, ty, pos, after, none⟩ :: rest) a w :=
  op_store_cell b 13 hx _ hy h.cells _ _ hr size_u16i (by show 13 < 21; decide) rfl rfl k
theorem st_pu1 (b : Nat) (h : V) (n : Nat) (t' : TypeId) (hr : RowAt w b h.cells t') (hx : a.eval x = .pointer (some ⟨b, 20, none⟩)) (hy : a.eval y = .int .u16 (n : Nat))
    (k : ∀ W, RowAt W b (h.q1w (h.q1.rw' (h.q1.r.puw n))).cells t' → Only b w W → wpList prog ops Q rest (a.put dst undef) W) : wpList prog ops Q (⟨dst, .store 24 x y, ty, pos, after, none⟩ :: rest) a w :=
  op_store_cell b 20 hx _ hy h.cells _ _ hr size_u16i (by show 20 < 21; decide) rfl rfl k
theorem results_cell_one' {P : Program} {fn : Func} {p u : Tmp} {ty : TypeId} (h : fn.results = #[.cell p ty, .tmp u]) (tmps : Array Value) (w : World) (g : Nat) (t : TypeId) (cs : Array Value) (d : TypeDesc)
    (hp : tmps.getD p undef = .pointer (some ⟨g, 0, none⟩)) (hg : RowAt w g cs t) (hu : P.underlying ty = some d) (hd : d.isRow = true) (hi : (P.info? ty).map (·.size) = some cs.size) :
    (results fn tmps).run P w = .ok (.tuple #[.agg cs, tmps.getD u undef]) w := by
  have e : tmps[p]?.getD undef = .pointer (some ⟨g, 0, none⟩) := by simpa using hp
  have l := run_loadVar_row w g t ty cs (0, 0) d hg hu (by cases d <;> first | rfl | cases hd) hi
  simp [results, h, e, asAddr, l]
theorem results_cell_two' {P : Program} {fn : Func} {p u v : Tmp} {ty : TypeId} (h : fn.results = #[.cell p ty, .tmp u, .tmp v]) (tmps : Array Value) (w : World) (g : Nat) (t : TypeId) (cs : Array Value) (d : TypeDesc)
    (hp : tmps.getD p undef = .pointer (some ⟨g, 0, none⟩)) (hg : RowAt w g cs t) (hu : P.underlying ty = some d) (hd : d.isRow = true) (hi : (P.info? ty).map (·.size) = some cs.size) :
    (results fn tmps).run P w = .ok (.tuple #[.agg cs, tmps.getD u undef, tmps.getD v undef]) w := by
  have e : tmps[p]?.getD undef = .pointer (some ⟨g, 0, none⟩) := by simpa using hp
  have l := run_loadVar_row w g t ty cs (0, 0) d hg hu (by cases d <;> first | rfl | cases hd) hi
  simp [results, h, e, asAddr, l]
end Go.Proofs.YtbggkoahofnnjaaGreatDoor
namespace Go.Proofs.YtbggkoahofnnjaaGreatDoor
open Go.RowKit
set_option maxHeartbeats 1000000
attribute [local go_sem] Rg.at0 Rg.at1 Rg.at2 Rg.at3 Rg.at4 Rg.at5
theorem sizesI : ∀ n : Fin 257, 1 ≤ n.val → (bits .and .i64 (n.val : Int) ((n.val : Int) - 1) == 0) = okSz (n.val : Int) := by decide +kernel
theorem okSz_far {s : Int} (h : ¬ (1 ≤ s ∧ s ≤ 256)) : okSz s = false := by
  rw [Bool.eq_false_iff]
  intro e
  have := okSz_cases e
  omega
theorem rcheck_any (r : Rg) (hr0 : r.Ok) (w : World) :
    Calls prog 100 #[.agg r.cells] w fun e w' => e = .returned (errR (if chkR r then 0 else 1)) ∧ Below w.heap.size w w' := by
  obtain ⟨sz, de, av, us, la, pu⟩ := r
  by_cases h1 : 1 ≤ sz ∧ sz ≤ 256
  · obtain ⟨n, rfl⟩ := Int.eq_ofNat_of_zero_le (show 0 ≤ sz by omega)
    have ha := sizesI ⟨n, by omega⟩ (by show 1 ≤ n; omega)
    simp only at ha
    have hd := hr0.de
    have hv := hr0.av
    have hu := hr0.us
    simp only at hd hv hu
    clear hr0
    have l1 : decide ((n : Int) < 1) = false := by simp; omega
    have l2 : decide (256 < (n : Int)) = false := by simp; omega
    unfold chkR alR
    simp only
    generalize okSz (n : Int) = ob at ha ⊢
    obtain ⟨h11, h12⟩ := h1
    cases ob with
    | false =>
      have t3 : (bits .and .i64 (n : Int) ((n : Int) - 1) != 0) = true := by simp only [bne, ha]; rfl
      rw [Bool.false_and, show errR (if false = true then 0 else 1) = .iface 82 (.int .i64 1) from rfl]
      go_enter func100, ntmps100
      go_wp2_with (first | ((with_reducible refine bx_rp w.heap.size ⟨(n : Int), de, av, us, la, pu⟩ ?_ ?_ ?_); exact rfl; exact rfl; intro W hr hb hz; have fx := hr.cell))
      go_ret
      exact ⟨rfl, hb⟩
    | true =>
      have t3 : (bits .and .i64 (n : Int) ((n : Int) - 1) != 0) = false := by simp only [bne, ha]; rfl
      rw [Bool.true_and]
      by_cases d1 : de % 16 = 0
      · by_cases d2 : av % 2 = 0
        · by_cases d3 : us % 4 = 0
          · rw [show (decide (de % 16 = 0) && (decide (av % 2 = 0) && decide (us % 4 = 0))) = true by simp [d1, d2, d3], show errR (if true = true then 0 else 1) = .nilIface from rfl]
            have mde1 : (((de : Int) % 16) != 0) = false := by simp; omega
            have mde2 : ((((de % 16 : Nat)) : Int) != 0) = false := by simp; omega
            have mde3 : (((de : Int) % 16) == 0) = true := by simp; omega
            have mde4 : ((((de % 16 : Nat)) : Int) == 0) = true := by simp; omega
            have mav1 : (((av : Int) % 2) != 0) = false := by simp; omega
            have mav2 : ((((av % 2 : Nat)) : Int) != 0) = false := by simp; omega
            have mav3 : (((av : Int) % 2) == 0) = true := by simp; omega
            have mav4 : ((((av % 2 : Nat)) : Int) == 0) = true := by simp; omega
            have mus1 : (((us : Int) % 4) != 0) = false := by simp; omega
            have mus2 : ((((us % 4 : Nat)) : Int) != 0) = false := by simp; omega
            have mus3 : (((us : Int) % 4) == 0) = true := by simp; omega
            have mus4 : ((((us % 4 : Nat)) : Int) == 0) = true := by simp; omega
            clear d1 d2 d3
            go_enter func100, ntmps100
            go_wp2_with (first | ((with_reducible refine bx_rp w.heap.size ⟨(n : Int), de, av, us, la, pu⟩ ?_ ?_ ?_); exact rfl; exact rfl; intro W hr hb hz; have fx := hr.cell))
            go_ret
            exact ⟨rfl, hb⟩
          · rw [show (decide (de % 16 = 0) && (decide (av % 2 = 0) && decide (us % 4 = 0))) = false by simp [d3], show errR (if false = true then 0 else 1) = .iface 82 (.int .i64 1) from rfl]
            have mde1 : (((de : Int) % 16) != 0) = false := by simp; omega
            have mde2 : ((((de % 16 : Nat)) : Int) != 0) = false := by simp; omega
            have mde3 : (((de : Int) % 16) == 0) = true := by simp; omega
            have mde4 : ((((de % 16 : Nat)) : Int) == 0) = true := by simp; omega
            have mav1 : (((av : Int) % 2) != 0) = false := by simp; omega
            have mav2 : ((((av % 2 : Nat)) : Int) != 0) = false := by simp; omega
            have mav3 : (((av : Int) % 2) == 0) = true := by simp; omega
            have mav4 : ((((av % 2 : Nat)) : Int) == 0) = true := by simp; omega
            have mus1 : (((us : Int) % 4) != 0) = true := by simp; omega
            have mus2 : ((((us % 4 : Nat)) : Int) != 0) = true := by simp; omega
            have mus3 : (((us : Int) % 4) == 0) = false := by simp; omega
            have mus4 : ((((us % 4 : Nat)) : Int) == 0) = false := by simp; omega
            clear d1 d2 d3
            go_enter func100, ntmps100
            go_wp2_with (first | ((with_reducible refine bx_rp w.heap.size ⟨(n : Int), de, av, us, la, pu⟩ ?_ ?_ ?_); exact rfl; exact rfl; intro W hr hb hz; have fx := hr.cell))
            go_ret
            exact ⟨rfl, hb⟩
        · rw [show (decide (de % 16 = 0) && (decide (av % 2 = 0) && decide (us % 4 = 0))) = false by simp [d2], show errR (if false = true then 0 else 1) = .iface 82 (.int .i64 1) from rfl]
          have mde1 : (((de : Int) % 16) != 0) = false := by simp; omega
          have mde2 : ((((de % 16 : Nat)) : Int) != 0) = false := by simp; omega
          have mde3 : (((de : Int) % 16) == 0) = true := by simp; omega
          have mde4 : ((((de % 16 : Nat)) : Int) == 0) = true := by simp; omega
          have mav1 : (((av : Int) % 2) != 0) = true := by simp; omega
          have mav2 : ((((av % 2 : Nat)) : Int) != 0) = true := by simp; omega
          have mav3 : (((av : Int) % 2) == 0) = false := by simp; omega
          have mav4 : ((((av % 2 : Nat)) : Int) == 0) = false := by simp; omega
          clear d1 d2
          go_enter func100, ntmps100
          go_wp2_with (first | ((with_reducible refine bx_rp w.heap.size ⟨(n : Int), de, av, us, la, pu⟩ ?_ ?_ ?_); exact rfl; exact rfl; intro W hr hb hz; have fx := hr.cell))
          go_ret
          exact ⟨rfl, hb⟩
      · rw [show (decide (de % 16 = 0) && (decide (av % 2 = 0) && decide (us % 4 = 0))) = false by simp [d1], show errR (if false = true then 0 else 1) = .iface 82 (.int .i64 1) from rfl]
        have mde1 : (((de : Int) % 16) != 0) = true := by simp; omega
        have mde2 : ((((de % 16 : Nat)) : Int) != 0) = true := by simp; omega
        have mde3 : (((de : Int) % 16) == 0) = false := by simp; omega
        have mde4 : ((((de % 16 : Nat)) : Int) == 0) = false := by simp; omega
        clear d1
        go_enter func100, ntmps100
        go_wp2_with (first | ((with_reducible refine bx_rp w.heap.size ⟨(n : Int), de, av, us, la, pu⟩ ?_ ?_ ?_); exact rfl; exact rfl; intro W hr hb hz; have fx := hr.cell))
        go_ret
        exact ⟨rfl, hb⟩
  · have hf : chkR ⟨sz, de, av, us, la, pu⟩ = false := by unfold chkR; rw [okSz_far h1]; rfl
    rw [hf, show errR (if false = true then 0 else 1) = .iface 82 (.int .i64 1) from rfl]
    clear hf
    by_cases h2 : sz < 1
    · have l1 : decide (sz < 1) = true := by simpa using h2
      go_enter func100, ntmps100
      go_wp2_with (first | ((with_reducible refine bx_rp w.heap.size ⟨sz, de, av, us, la, pu⟩ ?_ ?_ ?_); exact rfl; exact rfl; intro W hr hb hz; have fx := hr.cell))
      go_ret
      exact ⟨rfl, hb⟩
    · have l1 : decide (sz < 1) = false := by simpa using h2
      have l2 : decide (256 < sz) = true := by simp; omega
      clear h1 h2
      go_enter func100, ntmps100
      go_wp2_with (first | ((with_reducible refine bx_rp w.heap.size ⟨sz, de, av, us, la, pu⟩ ?_ ?_ ?_); exact rfl; exact rfl; intro W hr hb hz; have fx := hr.cell))
      go_ret
      exact ⟨rfl, hb⟩
end Go.Proofs.YtbggkoahofnnjaaGreatDoor
namespace Go.Proofs.YtbggkoahofnnjaaGreatDoor
open Go.RowKit
set_option maxHeartbeats 1000000
attribute [local go_sem] V.at0 V.at1 V.at2 V.at3 V.at4 V.at5 V.at6 V.at7 V.at8 V.at9 V.at10 V.at11 V.at12 V.at13 V.at14 V.at15 V.at16 V.at17 V.at18 V.at19 V.at20 Qu.at0 Qu.at1 Qu.at2 Qu.at3 Qu.at4 Qu.at5 Qu.at6
def StViRSmall0 (s : V) (w : World) : Prop := Calls prog 42 #[.agg s.cells] w fun e w' => e = .returned (.bool (liveV s)) ∧ Below w.heap.size w w'
theorem rlive_a (s : V) (ok : s.Ok) (h2 : s.st.testBit 2 = false) (w : World) :
    StViRSmall0 s w := by
  unfold StViRSmall0
  have HV : liveV s = false := by unfold liveV; rw [h2]; simp
  rw [HV]; clear HV
  have H2 := hide (fun w => rhas_2 s.st ok.st w)
  rw [h2] at H2
  go_enter func42, ntmps42
  go_wp2_with (first | ((with_reducible refine bx_vr w.heap.size s ?_ ?_ ?_); exact rfl; exact rfl; intro W hr hb hz; have fx := hr.cell) | (go_at_call 30; (with_reducible refine (H2.out _).mono ?_); rintro e W ⟨rfl, rfl⟩))
  go_ret
  exact ⟨rfl, hb⟩
theorem rlive_b (s : V) (ok : s.Ok) (h2 : s.st.testBit 2 = true) (h3 : s.st.testBit 3 = false) (w : World) :
    StViRSmall0 s w := by
  unfold StViRSmall0
  have HV : liveV s = false := by unfold liveV; rw [h2, h3]; simp
  rw [HV]; clear HV
  have H2 := hide (fun w => rhas_2 s.st ok.st w)
  rw [h2] at H2
  have H3 := hide (fun w => rhas_3 s.st ok.st w)
  rw [h3] at H3
  go_enter func42, ntmps42
  go_wp2_with (first | ((with_reducible refine bx_vr w.heap.size s ?_ ?_ ?_); exact rfl; exact rfl; intro W hr hb hz; have fx := hr.cell) | (go_at_call 30; (with_reducible refine (H2.out _).mono ?_); rintro e W ⟨rfl, rfl⟩) | (go_at_call 30; (with_reducible refine (H3.out _).mono ?_); rintro e W ⟨rfl, rfl⟩))
  go_ret
  exact ⟨rfl, hb⟩
theorem rlive_c (s : V) (ok : s.Ok) (h2 : s.st.testBit 2 = true) (h3 : s.st.testBit 3 = true) (h6 : s.st.testBit 6 = true) (w : World) :
    StViRSmall0 s w := by
  unfold StViRSmall0
  have HV : liveV s = false := by unfold liveV; rw [h2, h3, h6]; simp
  rw [HV]; clear HV
  have H2 := hide (fun w => rhas_2 s.st ok.st w)
  rw [h2] at H2
  have H3 := hide (fun w => rhas_3 s.st ok.st w)
  rw [h3] at H3
  have H6 := hide (fun w => rhas_6 s.st ok.st w)
  rw [h6] at H6
  go_enter func42, ntmps42
  go_wp2_with (first | ((with_reducible refine bx_vr w.heap.size s ?_ ?_ ?_); exact rfl; exact rfl; intro W hr hb hz; have fx := hr.cell) | (go_at_call 30; (with_reducible refine (H2.out _).mono ?_); rintro e W ⟨rfl, rfl⟩) | (go_at_call 30; (with_reducible refine (H3.out _).mono ?_); rintro e W ⟨rfl, rfl⟩) | (go_at_call 30; (with_reducible refine (H6.out _).mono ?_); rintro e W ⟨rfl, rfl⟩))
  go_ret
  exact ⟨rfl, hb⟩
theorem rlive_d (s : V) (ok : s.Ok) (h2 : s.st.testBit 2 = true) (h3 : s.st.testBit 3 = true) (h6 : s.st.testBit 6 = false) (w : World) :
    StViRSmall0 s w := by
  unfold StViRSmall0
  have HV : liveV s = true := by unfold liveV; rw [h2, h3, h6]; simp
  rw [HV]; clear HV
  have H2 := hide (fun w => rhas_2 s.st ok.st w)
  rw [h2] at H2
  have H3 := hide (fun w => rhas_3 s.st ok.st w)
  rw [h3] at H3
  have H6 := hide (fun w => rhas_6 s.st ok.st w)
  rw [h6] at H6
  go_enter func42, ntmps42
  go_wp2_with (first | ((with_reducible refine bx_vr w.heap.size s ?_ ?_ ?_); exact rfl; exact rfl; intro W hr hb hz; have fx := hr.cell) | (go_at_call 30; (with_reducible refine (H2.out _).mono ?_); rintro e W ⟨rfl, rfl⟩) | (go_at_call 30; (with_reducible refine (H3.out _).mono ?_); rintro e W ⟨rfl, rfl⟩) | (go_at_call 30; (with_reducible refine (H6.out _).mono ?_); rintro e W ⟨rfl, rfl⟩))
  go_ret
  exact ⟨rfl, hb⟩
theorem rlive_any (s : V) (ok : s.Ok) (w : World) : Calls prog 42 #[.agg s.cells] w fun e w' => e = .returned (.bool (liveV s)) ∧ Below w.heap.size w w' := by
  cases h2 : s.st.testBit 2 with
  | false => exact rlive_a s ok h2 w
  | true =>
    cases h3 : s.st.testBit 3 with
    | false => exact rlive_b s ok h2 h3 w
    | true =>
      cases h6 : s.st.testBit 6 with
      | true => exact rlive_c s ok h2 h3 h6 w
      | false => exact rlive_d s ok h2 h3 h6 w
theorem rfail_any (s : V) (ok : s.Ok) (w : World) :
    Calls prog 46 #[.agg s.cells] w fun e w' => e = .returned (.agg (failV s).cells) ∧ Below w.heap.size w w' := by
  have HA := hide (fun w => rset_6 s.st ok.st w)
  have HB := hide (fun w => rset_1 (s.stw (s.st ||| 64)).ir ok.ir w)
  go_enter func46, ntmps46
  go_wp2_with (first | ((with_reducible refine bx_vr w.heap.size s ?_ ?_ ?_); exact rfl; exact rfl; intro W hr hb hz; have fx := hr.cell) | ((with_reducible refine al_vr (w.heap.size + 1) ?_ ?_); exact hz.out; intro W hq hb' hz'; replace hr := hr.bl (hz.out ▸ hb'); replace hb := hb.trans (hb'.mono (by omega)); replace hz := hz'; replace fx := hr.cell) | ((with_reducible refine ld_st w.heap.size _ _ hr ?_ ?_ ?_); exact rfl; exact rfl) | ((with_reducible refine ld_ir w.heap.size _ _ hr ?_ ?_ ?_); exact rfl; exact rfl) | (go_at_call 64; (with_reducible refine (HA.out _).mono ?_); rintro e W ⟨rfl, hbc⟩; replace hr := hr.bl hbc; replace hq := hq.bl hbc; replace hb := below_bl rfl hb hbc) | (go_at_call 64; (with_reducible refine (HB.out _).mono ?_); rintro e W ⟨rfl, hbc⟩; replace hr := hr.bl hbc; replace hq := hq.bl hbc; replace hb := below_bl rfl hb hbc) | ((with_reducible refine st_st w.heap.size _ (s.st ||| 64) _ hr ?_ ?_ ?_); exact rfl; exact rfl; intro W hnew ho; replace hq := hq.only ho (by omega); replace hr := hnew; replace hb := ho.bel _ _ (by omega) hb; (try clear fx)) | ((with_reducible refine st_ir w.heap.size _ (s.ir ||| 2) _ hr ?_ ?_ ?_); exact rfl; exact rfl; intro W hnew ho; replace hq := hq.only ho (by omega); replace hr := hnew; replace hb := ho.bel _ _ (by omega) hb; (try clear fx)) | ((with_reducible refine ld_vr w.heap.size _ hr ?_ ?_ ?_); exact rfl; exact rfl) | ((with_reducible refine st_vr (w.heap.size + 1) _ (failV s) hq ?_ ?_ ?_); exact rfl; exact rfl; intro W hnew ho; replace hr := hr.only ho (by omega); replace hq := hnew; replace hb := ho.bel _ _ (by omega) hb))
  refine bodyPost_ret (results_cell_row results46 _ _ (w.heap.size + 1) _ _ _ _ rfl hq underlying31 rfl size_vr) rfl ?_
  exact ⟨rfl, hb⟩
end Go.Proofs.YtbggkoahofnnjaaGreatDoor
