/-
  Devices' states and queues in blocks of their own: what is read of them, and what stores make of them.
-/
import Derived.Test.YtahgacdkofmbmaaDoorViMath
import Derived.Test.YtahgacdkofmbmaaDoorRgRow
namespace Go.Proofs.YtahgacdkofmbmaaDoor
open Go.RowKit
set_option linter.unusedVariables false

def Qu.cells (s : Qu) : Array Value := #[.bool s.rd, .int .i64 s.r.sz, .int .u32 (s.r.de : Nat), .int .u32 (s.r.av : Nat), .int .u32 (s.r.us : Nat), .int .u16 (s.r.la : Nat), .int .u16 (s.r.pu : Nat)]
def V.cells (s : V) : Array Value := #[.int .u32 (s.st : Nat), .int .u32 (s.fs : Nat), .int .u32 (s.ds : Nat), .int .u32 (s.se : Nat), .int .u32 (s.ir : Nat), .int .u32 (s.d0 : Nat), .int .u32 (s.d1 : Nat), .bool s.q0.rd, .int .i64 s.q0.r.sz, .int .u32 (s.q0.r.de : Nat), .int .u32 (s.q0.r.av : Nat), .int .u32 (s.q0.r.us : Nat), .int .u16 (s.q0.r.la : Nat), .int .u16 (s.q0.r.pu : Nat), .bool s.q1.rd, .int .i64 s.q1.r.sz, .int .u32 (s.q1.r.de : Nat), .int .u32 (s.q1.r.av : Nat), .int .u32 (s.q1.r.us : Nat), .int .u16 (s.q1.r.la : Nat), .int .u16 (s.q1.r.pu : Nat)]
def V.qs (s : V) : Array Value := #[.bool s.q0.rd, .int .i64 s.q0.r.sz, .int .u32 (s.q0.r.de : Nat), .int .u32 (s.q0.r.av : Nat), .int .u32 (s.q0.r.us : Nat), .int .u16 (s.q0.r.la : Nat), .int .u16 (s.q0.r.pu : Nat), .bool s.q1.rd, .int .i64 s.q1.r.sz, .int .u32 (s.q1.r.de : Nat), .int .u32 (s.q1.r.av : Nat), .int .u32 (s.q1.r.us : Nat), .int .u16 (s.q1.r.la : Nat), .int .u16 (s.q1.r.pu : Nat)]
def V.drv (s : V) : Array Value := #[.int .u32 (s.d0 : Nat), .int .u32 (s.d1 : Nat)]
theorem Qu.at0 (s : Qu) : s.cells[0]? = some (.bool s.rd) := rfl
theorem Qu.at1 (s : Qu) : s.cells[1]? = some (.int .i64 s.r.sz) := rfl
theorem Qu.at2 (s : Qu) : s.cells[2]? = some (.int .u32 (s.r.de : Nat)) := rfl
theorem Qu.at3 (s : Qu) : s.cells[3]? = some (.int .u32 (s.r.av : Nat)) := rfl
theorem Qu.at4 (s : Qu) : s.cells[4]? = some (.int .u32 (s.r.us : Nat)) := rfl
theorem Qu.at5 (s : Qu) : s.cells[5]? = some (.int .u16 (s.r.la : Nat)) := rfl
theorem Qu.at6 (s : Qu) : s.cells[6]? = some (.int .u16 (s.r.pu : Nat)) := rfl
theorem V.at0 (s : V) : s.cells[0]? = some (.int .u32 (s.st : Nat)) := rfl
theorem V.at1 (s : V) : s.cells[1]? = some (.int .u32 (s.fs : Nat)) := rfl
theorem V.at2 (s : V) : s.cells[2]? = some (.int .u32 (s.ds : Nat)) := rfl
theorem V.at3 (s : V) : s.cells[3]? = some (.int .u32 (s.se : Nat)) := rfl
theorem V.at4 (s : V) : s.cells[4]? = some (.int .u32 (s.ir : Nat)) := rfl
theorem V.at5 (s : V) : s.cells[5]? = some (.int .u32 (s.d0 : Nat)) := rfl
theorem V.at6 (s : V) : s.cells[6]? = some (.int .u32 (s.d1 : Nat)) := rfl
theorem V.at7 (s : V) : s.cells[7]? = some (.bool s.q0.rd) := rfl
theorem V.at8 (s : V) : s.cells[8]? = some (.int .i64 s.q0.r.sz) := rfl
theorem V.at9 (s : V) : s.cells[9]? = some (.int .u32 (s.q0.r.de : Nat)) := rfl
theorem V.at10 (s : V) : s.cells[10]? = some (.int .u32 (s.q0.r.av : Nat)) := rfl
theorem V.at11 (s : V) : s.cells[11]? = some (.int .u32 (s.q0.r.us : Nat)) := rfl
theorem V.at12 (s : V) : s.cells[12]? = some (.int .u16 (s.q0.r.la : Nat)) := rfl
theorem V.at13 (s : V) : s.cells[13]? = some (.int .u16 (s.q0.r.pu : Nat)) := rfl
theorem V.at14 (s : V) : s.cells[14]? = some (.bool s.q1.rd) := rfl
theorem V.at15 (s : V) : s.cells[15]? = some (.int .i64 s.q1.r.sz) := rfl
theorem V.at16 (s : V) : s.cells[16]? = some (.int .u32 (s.q1.r.de : Nat)) := rfl
theorem V.at17 (s : V) : s.cells[17]? = some (.int .u32 (s.q1.r.av : Nat)) := rfl
theorem V.at18 (s : V) : s.cells[18]? = some (.int .u32 (s.q1.r.us : Nat)) := rfl
theorem V.at19 (s : V) : s.cells[19]? = some (.int .u16 (s.q1.r.la : Nat)) := rfl
theorem V.at20 (s : V) : s.cells[20]? = some (.int .u16 (s.q1.r.pu : Nat)) := rfl
theorem qu_one (s : Qu) : s.cells.all (·.oneCell') = true := by simp [Qu.cells, Value.oneCell']
theorem v_one (s : V) : s.cells.all (·.oneCell') = true := by simp [V.cells, Value.oneCell']
theorem size_drv : (Tryd.prog.info? 23).map (·.size) = some 2 := by kernel_rfl
theorem size_qs : (Tryd.prog.info? 35).map (·.size) = some 14 := by kernel_rfl
theorem ext_drv (s : V) : (s.cells.extract 5 (5 + s.drv.size)).toList = s.drv.toList := by kernel_rfl
theorem ext_qs (s : V) : (s.cells.extract 7 (7 + s.qs.size)).toList = s.qs.toList := by kernel_rfl
theorem ext_qur (s : Qu) : (s.cells.extract 1 (1 + s.r.cells.size)).toList = s.r.cells.toList := by kernel_rfl
theorem ext_q0 (s : V) : (s.cells.extract 7 (7 + s.q0.cells.size)).toList = s.q0.cells.toList := by kernel_rfl
theorem ext_r0 (s : V) : (s.cells.extract 8 (8 + s.q0.r.cells.size)).toList = s.q0.r.cells.toList := by kernel_rfl
theorem putAll_q0 (s : V) (q : Qu) : putAll s.cells 7 q.cells.toList = (s.q0w q).cells := by kernel_rfl
theorem index_q0 (s : V) (w : World) : (Instr.index 35 (.agg s.qs) (.int .i64 0)).run Tryd.prog w = .ok (.agg s.q0.cells) w := by kernel_rfl
theorem ext_q1 (s : V) : (s.cells.extract 14 (14 + s.q1.cells.size)).toList = s.q1.cells.toList := by kernel_rfl
theorem ext_r1 (s : V) : (s.cells.extract 15 (15 + s.q1.r.cells.size)).toList = s.q1.r.cells.toList := by kernel_rfl
theorem putAll_q1 (s : V) (q : Qu) : putAll s.cells 14 q.cells.toList = (s.q1w q).cells := by kernel_rfl
theorem index_q1 (s : V) (w : World) : (Instr.index 35 (.agg s.qs) (.int .i64 1)).run Tryd.prog w = .ok (.agg s.q1.cells) w := by kernel_rfl
variable {ops : Array Oper} {rest : List Oper} {dst : Option Tmp} {ty : TypeId} {pos : String} {after : Array Edge} {a : Act} {w : World} {Q : Exit → Act → World → Prop} {x y : Operand} {b : Nat} {S : World → Prop} {K : Act → World → Prop} {gd : Option (Nat × Bool)}
theorem size_qp : (Tryd.prog.info? 34).map (·.size) = some 7 := by kernel_rfl
theorem zero_qp (w : World) : (zeroValue 34).run Tryd.prog w = .ok (.agg zeroQu.cells) w :=
  (zero_of_info (P := Tryd.prog) (t := 34) (v := .agg zeroQu.cells) (n := 7) (by kernel_rfl)).1 w
theorem bx_qp (N : Nat) (h : Qu) (hN : w.heap.size = N) (hx : a.eval x = .agg h.cells)
    (k : ∀ W, RowAt W N h.cells 34 → Below N w W → Hid (W.heap.size = N + 1) → wpList Tryd.prog ops Q rest (a.put dst (.pointer (some ⟨N, 0, none⟩))) W) :
    wpList Tryd.prog ops Q (⟨dst, .box 34 x, ty, pos, after, none⟩ :: rest) a w := op_box N hN h.cells hx k
theorem al_qp (N : Nat) (hN : w.heap.size = N)
    (k : ∀ W, RowAt W N zeroQu.cells 34 → Below N w W → Hid (W.heap.size = N + 1) → wpList Tryd.prog ops Q rest (a.put dst (.pointer (some ⟨N, 0, none⟩))) W) :
    wpList Tryd.prog ops Q (⟨dst, .alloc 34, ty, pos, after, none⟩ :: rest) a w := op_alloc N hN zeroQu.cells zero_qp k
theorem ld_qp (b : Nat) (h : Qu) (hr : RowAt w b h.cells 34) (hx : a.eval x = .pointer (some ⟨b, 0, none⟩)) (hw : Region.wanted ⟨dst, .load 34 x, ty, pos, after, gd⟩ (yielded ops a.tmps) = true)
    (k : wpList Tryd.prog ops Q rest (a.put dst (.agg h.cells)) w) : wpList Tryd.prog ops Q (⟨dst, .load 34 x, ty, pos, after, gd⟩ :: rest) a w :=
  BigFrame.wpList_want hw fun K hK => wp_load_row 34 x rfl b hx _ h.cells (0, 0) _ hr Tryd.underlying34 rfl size_qp (hK _ _ k)
theorem st_qp (b : Nat) (old h : Qu) (hr : RowAt w b old.cells 34) (hx : a.eval x = .pointer (some ⟨b, 0, none⟩)) (hy : a.eval y = .agg h.cells)
    (k : ∀ W, RowAt W b h.cells 34 → Only b w W → wpList Tryd.prog ops Q rest (a.put dst undef) W) : wpList Tryd.prog ops Q (⟨dst, .store 34 x y, ty, pos, after, none⟩ :: rest) a w :=
  op_store b hx h.cells hy old.cells _ hr size_qp rfl (qu_one h) k
theorem y_qp (b : Nat) (h : Qu) (hS : ∀ V, S V → RowAt V b h.cells 34) (hx : a.eval x = .pointer (some ⟨b, 0, none⟩)) (hw : Region.wanted ⟨dst, .load 34 x, ty, pos, after, gd⟩ (yielded ops a.tmps) = true) :
    YieldsIf Tryd.prog ops S ⟨dst, .load 34 x, ty, pos, after, gd⟩ (.agg h.cells) a := by
  rcases y_load (ops := ops) (P := Tryd.prog) (t := 34) (dst := dst) (ty := ty) (after := after) (a := a) (x := x) (pos := pos) (S := S) b h.cells _ hS _ Tryd.underlying34 rfl size_qp hx with ⟨_, h2⟩ | ⟨h1, _⟩
  · exact .inl ⟨hw, fun V hV => h2 V hV⟩
  · simp [Region.wanted] at h1
theorem s_qp (b : Nat) (old h : Qu) (hr : RowAt w b old.cells 34) (hx : a.eval x = .pointer (some ⟨b, 0, none⟩)) (hy : a.eval y = .agg h.cells)
    (k : ∀ W, RowAt W b h.cells 34 → Only b w W → K (a.put dst undef) W) :
    Oper.wp Tryd.prog ⟨dst, .store 34 x y, ty, pos, after, none⟩ a w K Q :=
  s_store b hx h.cells hy old.cells _ hr size_qp rfl (qu_one h) k
theorem size_qr : (Tryd.prog.info? 28).map (·.size) = some 7 := by kernel_rfl
theorem zero_qr (w : World) : (zeroValue 28).run Tryd.prog w = .ok (.agg zeroQu.cells) w :=
  (zero_of_info (P := Tryd.prog) (t := 28) (v := .agg zeroQu.cells) (n := 7) (by kernel_rfl)).1 w
theorem bx_qr (N : Nat) (h : Qu) (hN : w.heap.size = N) (hx : a.eval x = .agg h.cells)
    (k : ∀ W, RowAt W N h.cells 28 → Below N w W → Hid (W.heap.size = N + 1) → wpList Tryd.prog ops Q rest (a.put dst (.pointer (some ⟨N, 0, none⟩))) W) :
    wpList Tryd.prog ops Q (⟨dst, .box 28 x, ty, pos, after, none⟩ :: rest) a w := op_box N hN h.cells hx k
theorem al_qr (N : Nat) (hN : w.heap.size = N)
    (k : ∀ W, RowAt W N zeroQu.cells 28 → Below N w W → Hid (W.heap.size = N + 1) → wpList Tryd.prog ops Q rest (a.put dst (.pointer (some ⟨N, 0, none⟩))) W) :
    wpList Tryd.prog ops Q (⟨dst, .alloc 28, ty, pos, after, none⟩ :: rest) a w := op_alloc N hN zeroQu.cells zero_qr k
theorem ld_qr (b : Nat) (h : Qu) (hr : RowAt w b h.cells 28) (hx : a.eval x = .pointer (some ⟨b, 0, none⟩)) (hw : Region.wanted ⟨dst, .load 28 x, ty, pos, after, gd⟩ (yielded ops a.tmps) = true)
    (k : wpList Tryd.prog ops Q rest (a.put dst (.agg h.cells)) w) : wpList Tryd.prog ops Q (⟨dst, .load 28 x, ty, pos, after, gd⟩ :: rest) a w :=
  BigFrame.wpList_want hw fun K hK => wp_load_row 28 x rfl b hx _ h.cells (0, 0) _ hr Tryd.underlying28 rfl size_qr (hK _ _ k)
theorem st_qr (b : Nat) (old h : Qu) (hr : RowAt w b old.cells 28) (hx : a.eval x = .pointer (some ⟨b, 0, none⟩)) (hy : a.eval y = .agg h.cells)
    (k : ∀ W, RowAt W b h.cells 28 → Only b w W → wpList Tryd.prog ops Q rest (a.put dst undef) W) : wpList Tryd.prog ops Q (⟨dst, .store 28 x y, ty, pos, after, none⟩ :: rest) a w :=
  op_store b hx h.cells hy old.cells _ hr size_qr rfl (qu_one h) k
theorem y_qr (b : Nat) (h : Qu) (hS : ∀ V, S V → RowAt V b h.cells 28) (hx : a.eval x = .pointer (some ⟨b, 0, none⟩)) (hw : Region.wanted ⟨dst, .load 28 x, ty, pos, after, gd⟩ (yielded ops a.tmps) = true) :
    YieldsIf Tryd.prog ops S ⟨dst, .load 28 x, ty, pos, after, gd⟩ (.agg h.cells) a := by
  rcases y_load (ops := ops) (P := Tryd.prog) (t := 28) (dst := dst) (ty := ty) (after := after) (a := a) (x := x) (pos := pos) (S := S) b h.cells _ hS _ Tryd.underlying28 rfl size_qr hx with ⟨_, h2⟩ | ⟨h1, _⟩
  · exact .inl ⟨hw, fun V hV => h2 V hV⟩
  · simp [Region.wanted] at h1
theorem s_qr (b : Nat) (old h : Qu) (hr : RowAt w b old.cells 28) (hx : a.eval x = .pointer (some ⟨b, 0, none⟩)) (hy : a.eval y = .agg h.cells)
    (k : ∀ W, RowAt W b h.cells 28 → Only b w W → K (a.put dst undef) W) :
    Oper.wp Tryd.prog ⟨dst, .store 28 x y, ty, pos, after, none⟩ a w K Q :=
  s_store b hx h.cells hy old.cells _ hr size_qr rfl (qu_one h) k
theorem size_vp : (Tryd.prog.info? 37).map (·.size) = some 21 := by kernel_rfl
theorem zero_vp (w : World) : (zeroValue 37).run Tryd.prog w = .ok (.agg zeroV.cells) w :=
  (zero_of_info (P := Tryd.prog) (t := 37) (v := .agg zeroV.cells) (n := 21) (by kernel_rfl)).1 w
theorem bx_vp (N : Nat) (h : V) (hN : w.heap.size = N) (hx : a.eval x = .agg h.cells)
    (k : ∀ W, RowAt W N h.cells 37 → Below N w W → Hid (W.heap.size = N + 1) → wpList Tryd.prog ops Q rest (a.put dst (.pointer (some ⟨N, 0, none⟩))) W) :
    wpList Tryd.prog ops Q (⟨dst, .box 37 x, ty, pos, after, none⟩ :: rest) a w := op_box N hN h.cells hx k
theorem al_vp (N : Nat) (hN : w.heap.size = N)
    (k : ∀ W, RowAt W N zeroV.cells 37 → Below N w W → Hid (W.heap.size = N + 1) → wpList Tryd.prog ops Q rest (a.put dst (.pointer (some ⟨N, 0, none⟩))) W) :
    wpList Tryd.prog ops Q (⟨dst, .alloc 37, ty, pos, after, none⟩ :: rest) a w := op_alloc N hN zeroV.cells zero_vp k
theorem ld_vp (b : Nat) (h : V) (hr : RowAt w b h.cells 37) (hx : a.eval x = .pointer (some ⟨b, 0, none⟩)) (hw : Region.wanted ⟨dst, .load 37 x, ty, pos, after, gd⟩ (yielded ops a.tmps) = true)
    (k : wpList Tryd.prog ops Q rest (a.put dst (.agg h.cells)) w) : wpList Tryd.prog ops Q (⟨dst, .load 37 x, ty, pos, after, gd⟩ :: rest) a w :=
  BigFrame.wpList_want hw fun K hK => wp_load_row 37 x rfl b hx _ h.cells (0, 0) _ hr Tryd.underlying37 rfl size_vp (hK _ _ k)
theorem st_vp (b : Nat) (old h : V) (hr : RowAt w b old.cells 37) (hx : a.eval x = .pointer (some ⟨b, 0, none⟩)) (hy : a.eval y = .agg h.cells)
    (k : ∀ W, RowAt W b h.cells 37 → Only b w W → wpList Tryd.prog ops Q rest (a.put dst undef) W) : wpList Tryd.prog ops Q (⟨dst, .store 37 x y, ty, pos, after, none⟩ :: rest) a w :=
  op_store b hx h.cells hy old.cells _ hr size_vp rfl (v_one h) k
theorem y_vp (b : Nat) (h : V) (hS : ∀ V, S V → RowAt V b h.cells 37) (hx : a.eval x = .pointer (some ⟨b, 0, none⟩)) (hw : Region.wanted ⟨dst, .load 37 x, ty, pos, after, gd⟩ (yielded ops a.tmps) = true) :
    YieldsIf Tryd.prog ops S ⟨dst, .load 37 x, ty, pos, after, gd⟩ (.agg h.cells) a := by
  rcases y_load (ops := ops) (P := Tryd.prog) (t := 37) (dst := dst) (ty := ty) (after := after) (a := a) (x := x) (pos := pos) (S := S) b h.cells _ hS _ Tryd.underlying37 rfl size_vp hx with ⟨_, h2⟩ | ⟨h1, _⟩
  · exact .inl ⟨hw, fun V hV => h2 V hV⟩
  · simp [Region.wanted] at h1
theorem s_vp (b : Nat) (old h : V) (hr : RowAt w b old.cells 37) (hx : a.eval x = .pointer (some ⟨b, 0, none⟩)) (hy : a.eval y = .agg h.cells)
    (k : ∀ W, RowAt W b h.cells 37 → Only b w W → K (a.put dst undef) W) :
    Oper.wp Tryd.prog ⟨dst, .store 37 x y, ty, pos, after, none⟩ a w K Q :=
  s_store b hx h.cells hy old.cells _ hr size_vp rfl (v_one h) k
theorem size_vr : (Tryd.prog.info? 31).map (·.size) = some 21 := by kernel_rfl
theorem zero_vr (w : World) : (zeroValue 31).run Tryd.prog w = .ok (.agg zeroV.cells) w :=
  (zero_of_info (P := Tryd.prog) (t := 31) (v := .agg zeroV.cells) (n := 21) (by kernel_rfl)).1 w
theorem bx_vr (N : Nat) (h : V) (hN : w.heap.size = N) (hx : a.eval x = .agg h.cells)
    (k : ∀ W, RowAt W N h.cells 31 → Below N w W → Hid (W.heap.size = N + 1) → wpList Tryd.prog ops Q rest (a.put dst (.pointer (some ⟨N, 0, none⟩))) W) :
    wpList Tryd.prog ops Q (⟨dst, .box 31 x, ty, pos, after, none⟩ :: rest) a w := op_box N hN h.cells hx k
theorem al_vr (N : Nat) (hN : w.heap.size = N)
    (k : ∀ W, RowAt W N zeroV.cells 31 → Below N w W → Hid (W.heap.size = N + 1) → wpList Tryd.prog ops Q rest (a.put dst (.pointer (some ⟨N, 0, none⟩))) W) :
    wpList Tryd.prog ops Q (⟨dst, .alloc 31, ty, pos, after, none⟩ :: rest) a w := op_alloc N hN zeroV.cells zero_vr k
theorem ld_vr (b : Nat) (h : V) (hr : RowAt w b h.cells 31) (hx : a.eval x = .pointer (some ⟨b, 0, none⟩)) (hw : Region.wanted ⟨dst, .load 31 x, ty, pos, after, gd⟩ (yielded ops a.tmps) = true)
    (k : wpList Tryd.prog ops Q rest (a.put dst (.agg h.cells)) w) : wpList Tryd.prog ops Q (⟨dst, .load 31 x, ty, pos, after, gd⟩ :: rest) a w :=
  BigFrame.wpList_want hw fun K hK => wp_load_row 31 x rfl b hx _ h.cells (0, 0) _ hr Tryd.underlying31 rfl size_vr (hK _ _ k)
theorem st_vr (b : Nat) (old h : V) (hr : RowAt w b old.cells 31) (hx : a.eval x = .pointer (some ⟨b, 0, none⟩)) (hy : a.eval y = .agg h.cells)
    (k : ∀ W, RowAt W b h.cells 31 → Only b w W → wpList Tryd.prog ops Q rest (a.put dst undef) W) : wpList Tryd.prog ops Q (⟨dst, .store 31 x y, ty, pos, after, none⟩ :: rest) a w :=
  op_store b hx h.cells hy old.cells _ hr size_vr rfl (v_one h) k
theorem y_vr (b : Nat) (h : V) (hS : ∀ V, S V → RowAt V b h.cells 31) (hx : a.eval x = .pointer (some ⟨b, 0, none⟩)) (hw : Region.wanted ⟨dst, .load 31 x, ty, pos, after, gd⟩ (yielded ops a.tmps) = true) :
    YieldsIf Tryd.prog ops S ⟨dst, .load 31 x, ty, pos, after, gd⟩ (.agg h.cells) a := by
  rcases y_load (ops := ops) (P := Tryd.prog) (t := 31) (dst := dst) (ty := ty) (after := after) (a := a) (x := x) (pos := pos) (S := S) b h.cells _ hS _ Tryd.underlying31 rfl size_vr hx with ⟨_, h2⟩ | ⟨h1, _⟩
  · exact .inl ⟨hw, fun V hV => h2 V hV⟩
  · simp [Region.wanted] at h1
theorem s_vr (b : Nat) (old h : V) (hr : RowAt w b old.cells 31) (hx : a.eval x = .pointer (some ⟨b, 0, none⟩)) (hy : a.eval y = .agg h.cells)
    (k : ∀ W, RowAt W b h.cells 31 → Only b w W → K (a.put dst undef) W) :
    Oper.wp Tryd.prog ⟨dst, .store 31 x y, ty, pos, after, none⟩ a w K Q :=
  s_store b hx h.cells hy old.cells _ hr size_vr rfl (v_one h) k
theorem ld_drv (b : Nat) (h : V) (t' : TypeId) (hr : RowAt w b h.cells t') (hx : a.eval x = .pointer (some ⟨b, 5, none⟩)) (hw : Region.wanted ⟨dst, .load 23 x, ty, pos, after, gd⟩ (yielded ops a.tmps) = true)
    (k : wpList Tryd.prog ops Q rest (a.put dst (.agg h.drv)) w) : wpList Tryd.prog ops Q (⟨dst, .load 23 x, ty, pos, after, gd⟩ :: rest) a w :=
  BigFrame.wpList_want hw fun K hK => wp_load_mid 23 x rfl b 5 hx h.drv.toList _ (ext_drv h ▸ World.rangeAt_of_block hr 5 h.drv.size) Tryd.underlying23 rfl size_drv (hK _ _ k)
theorem ld_qs (b : Nat) (h : V) (t' : TypeId) (hr : RowAt w b h.cells t') (hx : a.eval x = .pointer (some ⟨b, 7, none⟩)) (hw : Region.wanted ⟨dst, .load 35 x, ty, pos, after, gd⟩ (yielded ops a.tmps) = true)
    (k : wpList Tryd.prog ops Q rest (a.put dst (.agg h.qs)) w) : wpList Tryd.prog ops Q (⟨dst, .load 35 x, ty, pos, after, gd⟩ :: rest) a w :=
  BigFrame.wpList_want hw fun K hK => wp_load_mid 35 x rfl b 7 hx h.qs.toList _ (ext_qs h ▸ World.rangeAt_of_block hr 7 h.qs.size) Tryd.underlying35 rfl size_qs (hK _ _ k)
theorem ld_qurp (b : Nat) (h : Qu) (t' : TypeId) (hr : RowAt w b h.cells t') (hx : a.eval x = .pointer (some ⟨b, 1, none⟩)) (hw : Region.wanted ⟨dst, .load 32 x, ty, pos, after, gd⟩ (yielded ops a.tmps) = true)
    (k : wpList Tryd.prog ops Q rest (a.put dst (.agg h.r.cells)) w) : wpList Tryd.prog ops Q (⟨dst, .load 32 x, ty, pos, after, gd⟩ :: rest) a w :=
  BigFrame.wpList_want hw fun K hK => wp_load_mid 32 x rfl b 1 hx h.r.cells.toList _ (ext_qur h ▸ World.rangeAt_of_block hr 1 h.r.cells.size) Tryd.underlying32 rfl size_rp (hK _ _ k)
theorem ld_q0p (b : Nat) (h : V) (t' : TypeId) (hr : RowAt w b h.cells t') (hx : a.eval x = .pointer (some ⟨b, 7, none⟩)) (hw : Region.wanted ⟨dst, .load 34 x, ty, pos, after, gd⟩ (yielded ops a.tmps) = true)
    (k : wpList Tryd.prog ops Q rest (a.put dst (.agg h.q0.cells)) w) : wpList Tryd.prog ops Q (⟨dst, .load 34 x, ty, pos, after, gd⟩ :: rest) a w :=
  BigFrame.wpList_want hw fun K hK => wp_load_mid 34 x rfl b 7 hx h.q0.cells.toList _ (ext_q0 h ▸ World.rangeAt_of_block hr 7 h.q0.cells.size) Tryd.underlying34 rfl size_qp (hK _ _ k)
theorem ld_r0p (b : Nat) (h : V) (t' : TypeId) (hr : RowAt w b h.cells t') (hx : a.eval x = .pointer (some ⟨b, 8, none⟩)) (hw : Region.wanted ⟨dst, .load 32 x, ty, pos, after, gd⟩ (yielded ops a.tmps) = true)
    (k : wpList Tryd.prog ops Q rest (a.put dst (.agg h.q0.r.cells)) w) : wpList Tryd.prog ops Q (⟨dst, .load 32 x, ty, pos, after, gd⟩ :: rest) a w :=
  BigFrame.wpList_want hw fun K hK => wp_load_mid 32 x rfl b 8 hx h.q0.r.cells.toList _ (ext_r0 h ▸ World.rangeAt_of_block hr 8 h.q0.r.cells.size) Tryd.underlying32 rfl size_rp (hK _ _ k)
theorem st_q0p (b : Nat) (h : V) (f : Qu) (t' : TypeId) (hr : RowAt w b h.cells t') (hx : a.eval x = .pointer (some ⟨b, 7, none⟩)) (hy : a.eval y = .agg f.cells)
    (k : ∀ W, RowAt W b (h.q0w f).cells t' → Only b w W → wpList Tryd.prog ops Q rest (a.put dst undef) W) : wpList Tryd.prog ops Q (⟨dst, .store 34 x y, ty, pos, after, none⟩ :: rest) a w :=
  op_store_mid b 7 hx f.cells hy h.cells _ _ hr size_qp (by show 7 + 7 ≤ 21; decide) (qu_one f) (putAll_q0 h f) k
theorem ld_q1p (b : Nat) (h : V) (t' : TypeId) (hr : RowAt w b h.cells t') (hx : a.eval x = .pointer (some ⟨b, 14, none⟩)) (hw : Region.wanted ⟨dst, .load 34 x, ty, pos, after, gd⟩ (yielded ops a.tmps) = true)
    (k : wpList Tryd.prog ops Q rest (a.put dst (.agg h.q1.cells)) w) : wpList Tryd.prog ops Q (⟨dst, .load 34 x, ty, pos, after, gd⟩ :: rest) a w :=
  BigFrame.wpList_want hw fun K hK => wp_load_mid 34 x rfl b 14 hx h.q1.cells.toList _ (ext_q1 h ▸ World.rangeAt_of_block hr 14 h.q1.cells.size) Tryd.underlying34 rfl size_qp (hK _ _ k)
theorem ld_r1p (b : Nat) (h : V) (t' : TypeId) (hr : RowAt w b h.cells t') (hx : a.eval x = .pointer (some ⟨b, 15, none⟩)) (hw : Region.wanted ⟨dst, .load 32 x, ty, pos, after, gd⟩ (yielded ops a.tmps) = true)
    (k : wpList Tryd.prog ops Q rest (a.put dst (.agg h.q1.r.cells)) w) : wpList Tryd.prog ops Q (⟨dst, .load 32 x, ty, pos, after, gd⟩ :: rest) a w :=
  BigFrame.wpList_want hw fun K hK => wp_load_mid 32 x rfl b 15 hx h.q1.r.cells.toList _ (ext_r1 h ▸ World.rangeAt_of_block hr 15 h.q1.r.cells.size) Tryd.underlying32 rfl size_rp (hK _ _ k)
theorem st_q1p (b : Nat) (h : V) (f : Qu) (t' : TypeId) (hr : RowAt w b h.cells t') (hx : a.eval x = .pointer (some ⟨b, 14, none⟩)) (hy : a.eval y = .agg f.cells)
    (k : ∀ W, RowAt W b (h.q1w f).cells t' → Only b w W → wpList Tryd.prog ops Q rest (a.put dst undef) W) : wpList Tryd.prog ops Q (⟨dst, .store 34 x y, ty, pos, after, none⟩ :: rest) a w :=
  op_store_mid b 14 hx f.cells hy h.cells _ _ hr size_qp (by show 14 + 7 ≤ 21; decide) (qu_one f) (putAll_q1 h f) k
theorem ld_qurr (b : Nat) (h : Qu) (t' : TypeId) (hr : RowAt w b h.cells t') (hx : a.eval x = .pointer (some ⟨b, 1, none⟩)) (hw : Region.wanted ⟨dst, .load 26 x, ty, pos, after, gd⟩ (yielded ops a.tmps) = true)
    (k : wpList Tryd.prog ops Q rest (a.put dst (.agg h.r.cells)) w) : wpList Tryd.prog ops Q (⟨dst, .load 26 x, ty, pos, after, gd⟩ :: rest) a w :=
  BigFrame.wpList_want hw fun K hK => wp_load_mid 26 x rfl b 1 hx h.r.cells.toList _ (ext_qur h ▸ World.rangeAt_of_block hr 1 h.r.cells.size) Tryd.underlying26 rfl size_rr (hK _ _ k)
theorem ld_q0r (b : Nat) (h : V) (t' : TypeId) (hr : RowAt w b h.cells t') (hx : a.eval x = .pointer (some ⟨b, 7, none⟩)) (hw : Region.wanted ⟨dst, .load 28 x, ty, pos, after, gd⟩ (yielded ops a.tmps) = true)
    (k : wpList Tryd.prog ops Q rest (a.put dst (.agg h.q0.cells)) w) : wpList Tryd.prog ops Q (⟨dst, .load 28 x, ty, pos, after, gd⟩ :: rest) a w :=
  BigFrame.wpList_want hw fun K hK => wp_load_mid 28 x rfl b 7 hx h.q0.cells.toList _ (ext_q0 h ▸ World.rangeAt_of_block hr 7 h.q0.cells.size) Tryd.underlying28 rfl size_qr (hK _ _ k)
theorem ld_r0r (b : Nat) (h : V) (t' : TypeId) (hr : RowAt w b h.cells t') (hx : a.eval x = .pointer (some ⟨b, 8, none⟩)) (hw : Region.wanted ⟨dst, .load 26 x, ty, pos, after, gd⟩ (yielded ops a.tmps) = true)
    (k : wpList Tryd.prog ops Q rest (a.put dst (.agg h.q0.r.cells)) w) : wpList Tryd.prog ops Q (⟨dst, .load 26 x, ty, pos, after, gd⟩ :: rest) a w :=
  BigFrame.wpList_want hw fun K hK => wp_load_mid 26 x rfl b 8 hx h.q0.r.cells.toList _ (ext_r0 h ▸ World.rangeAt_of_block hr 8 h.q0.r.cells.size) Tryd.underlying26 rfl size_rr (hK _ _ k)
theorem st_q0r (b : Nat) (h : V) (f : Qu) (t' : TypeId) (hr : RowAt w b h.cells t') (hx : a.eval x = .pointer (some ⟨b, 7, none⟩)) (hy : a.eval y = .agg f.cells)
    (k : ∀ W, RowAt W b (h.q0w f).cells t' → Only b w W → wpList Tryd.prog ops Q rest (a.put dst undef) W) : wpList Tryd.prog ops Q (⟨dst, .store 28 x y, ty, pos, after, none⟩ :: rest) a w :=
  op_store_mid b 7 hx f.cells hy h.cells _ _ hr size_qr (by show 7 + 7 ≤ 21; decide) (qu_one f) (putAll_q0 h f) k
theorem ld_q1r (b : Nat) (h : V) (t' : TypeId) (hr : RowAt w b h.cells t') (hx : a.eval x = .pointer (some ⟨b, 14, none⟩)) (hw : Region.wanted ⟨dst, .load 28 x, ty, pos, after, gd⟩ (yielded ops a.tmps) = true)
    (k : wpList Tryd.prog ops Q rest (a.put dst (.agg h.q1.cells)) w) : wpList Tryd.prog ops Q (⟨dst, .load 28 x, ty, pos, after, gd⟩ :: rest) a w :=
  BigFrame.wpList_want hw fun K hK => wp_load_mid 28 x rfl b 14 hx h.q1.cells.toList _ (ext_q1 h ▸ World.rangeAt_of_block hr 14 h.q1.cells.size) Tryd.underlying28 rfl size_qr (hK _ _ k)
theorem ld_r1r (b : Nat) (h : V) (t' : TypeId) (hr : RowAt w b h.cells t') (hx : a.eval x = .pointer (some ⟨b, 15, none⟩)) (hw : Region.wanted ⟨dst, .load 26 x, ty, pos, after, gd⟩ (yielded ops a.tmps) = true)
    (k : wpList Tryd.prog ops Q rest (a.put dst (.agg h.q1.r.cells)) w) : wpList Tryd.prog ops Q (⟨dst, .load 26 x, ty, pos, after, gd⟩ :: rest) a w :=
  BigFrame.wpList_want hw fun K hK => wp_load_mid 26 x rfl b 15 hx h.q1.r.cells.toList _ (ext_r1 h ▸ World.rangeAt_of_block hr 15 h.q1.r.cells.size) Tryd.underlying26 rfl size_rr (hK _ _ k)
theorem st_q1r (b : Nat) (h : V) (f : Qu) (t' : TypeId) (hr : RowAt w b h.cells t') (hx : a.eval x = .pointer (some ⟨b, 14, none⟩)) (hy : a.eval y = .agg f.cells)
    (k : ∀ W, RowAt W b (h.q1w f).cells t' → Only b w W → wpList Tryd.prog ops Q rest (a.put dst undef) W) : wpList Tryd.prog ops Q (⟨dst, .store 28 x y, ty, pos, after, none⟩ :: rest) a w :=
  op_store_mid b 14 hx f.cells hy h.cells _ _ hr size_qr (by show 14 + 7 ≤ 21; decide) (qu_one f) (putAll_q1 h f) k
theorem ld_st (b : Nat) (h : V) (t' : TypeId) (hr : RowAt w b h.cells t') (hx : a.eval x = .pointer (some ⟨b, 0, none⟩)) (hw : Region.wanted ⟨dst, .load 22 x, ty, pos, after, gd⟩ (yielded ops a.tmps) = true)
    (k : wpList Tryd.prog ops Q rest (a.put dst (.int .u32 (h.st : Nat))) w) : wpList Tryd.prog ops Q (⟨dst, .load 22 x, ty, pos, after, gd⟩ :: rest) a w :=
  op_load_cellg b 0 hx h.cells _ _ hr rfl _ Tryd.underlying22 rfl hw k
theorem st_st (b : Nat) (h : V) (n : Nat) (t' : TypeId) (hr : RowAt w b h.cells t') (hx : a.eval x = .pointer (some ⟨b, 0, none⟩)) (hy : a.eval y = .int .u32 (n : Nat))
    (k : ∀ W, RowAt W b (h.stw n).cells t' → Only b w W → wpList Tryd.prog ops Q rest (a.put dst undef) W) : wpList Tryd.prog ops Q (⟨dst, .store 22 x y, ty, pos, after, none⟩ :: rest) a w :=
  op_store_cell b 0 hx _ hy h.cells _ _ hr size_u32i (by show 0 < 21; decide) rfl rfl k
theorem y_st (b : Nat) (h : V) (t' : TypeId) (hS : ∀ V, S V → RowAt V b h.cells t') (hx : a.eval x = .pointer (some ⟨b, 0, none⟩)) :
    YieldsIf Tryd.prog ops S ⟨dst, .load 22 x, ty, pos, after, none⟩ (.int .u32 (h.st : Nat)) a := y_cell b 0 _ (fun V hV => ((hS V hV).cell 0).trans rfl) _ Tryd.underlying22 rfl hx
theorem ld_fs (b : Nat) (h : V) (t' : TypeId) (hr : RowAt w b h.cells t') (hx : a.eval x = .pointer (some ⟨b, 1, none⟩)) (hw : Region.wanted ⟨dst, .load 22 x, ty, pos, after, gd⟩ (yielded ops a.tmps) = true)
    (k : wpList Tryd.prog ops Q rest (a.put dst (.int .u32 (h.fs : Nat))) w) : wpList Tryd.prog ops Q (⟨dst, .load 22 x, ty, pos, after, gd⟩ :: rest) a w :=
  op_load_cellg b 1 hx h.cells _ _ hr rfl _ Tryd.underlying22 rfl hw k
theorem st_fs (b : Nat) (h : V) (n : Nat) (t' : TypeId) (hr : RowAt w b h.cells t') (hx : a.eval x = .pointer (some ⟨b, 1, none⟩)) (hy : a.eval y = .int .u32 (n : Nat))
    (k : ∀ W, RowAt W b (h.fsw n).cells t' → Only b w W → wpList Tryd.prog ops Q rest (a.put dst undef) W) : wpList Tryd.prog ops Q (⟨dst, .store 22 x y, ty, pos, after, none⟩ :: rest) a w :=
  op_store_cell b 1 hx _ hy h.cells _ _ hr size_u32i (by show 1 < 21; decide) rfl rfl k
theorem y_fs (b : Nat) (h : V) (t' : TypeId) (hS : ∀ V, S V → RowAt V b h.cells t') (hx : a.eval x = .pointer (some ⟨b, 1, none⟩)) :
    YieldsIf Tryd.prog ops S ⟨dst, .load 22 x, ty, pos, after, none⟩ (.int .u32 (h.fs : Nat)) a := y_cell b 1 _ (fun V hV => ((hS V hV).cell 1).trans rfl) _ Tryd.underlying22 rfl hx
theorem ld_ds (b : Nat) (h : V) (t' : TypeId) (hr : RowAt w b h.cells t') (hx : a.eval x = .pointer (some ⟨b, 2, none⟩)) (hw : Region.wanted ⟨dst, .load 22 x, ty, pos, after, gd⟩ (yielded ops a.tmps) = true)
    (k : wpList Tryd.prog ops Q rest (a.put dst (.int .u32 (h.ds : Nat))) w) : wpList Tryd.prog ops Q (⟨dst, .load 22 x, ty, pos, after, gd⟩ :: rest) a w :=
  op_load_cellg b 2 hx h.cells _ _ hr rfl _ Tryd.underlying22 rfl hw k
theorem st_ds (b : Nat) (h : V) (n : Nat) (t' : TypeId) (hr : RowAt w b h.cells t') (hx : a.eval x = .pointer (some ⟨b, 2, none⟩)) (hy : a.eval y = .int .u32 (n : Nat))
    (k : ∀ W, RowAt W b (h.dsw n).cells t' → Only b w W → wpList Tryd.prog ops Q rest (a.put dst undef) W) : wpList Tryd.prog ops Q (⟨dst, .store 22 x y, ty, pos, after, none⟩ :: rest) a w :=
  op_store_cell b 2 hx _ hy h.cells _ _ hr size_u32i (by show 2 < 21; decide) rfl rfl k
theorem y_ds (b : Nat) (h : V) (t' : TypeId) (hS : ∀ V, S V → RowAt V b h.cells t') (hx : a.eval x = .pointer (some ⟨b, 2, none⟩)) :
    YieldsIf Tryd.prog ops S ⟨dst, .load 22 x, ty, pos, after, none⟩ (.int .u32 (h.ds : Nat)) a := y_cell b 2 _ (fun V hV => ((hS V hV).cell 2).trans rfl) _ Tryd.underlying22 rfl hx
theorem ld_se (b : Nat) (h : V) (t' : TypeId) (hr : RowAt w b h.cells t') (hx : a.eval x = .pointer (some ⟨b, 3, none⟩)) (hw : Region.wanted ⟨dst, .load 22 x, ty, pos, after, gd⟩ (yielded ops a.tmps) = true)
    (k : wpList Tryd.prog ops Q rest (a.put dst (.int .u32 (h.se : Nat))) w) : wpList Tryd.prog ops Q (⟨dst, .load 22 x, ty, pos, after, gd⟩ :: rest) a w :=
  op_load_cellg b 3 hx h.cells _ _ hr rfl _ Tryd.underlying22 rfl hw k
theorem st_se (b : Nat) (h : V) (n : Nat) (t' : TypeId) (hr : RowAt w b h.cells t') (hx : a.eval x = .pointer (some ⟨b, 3, none⟩)) (hy : a.eval y = .int .u32 (n : Nat))
    (k : ∀ W, RowAt W b (h.sew n).cells t' → Only b w W → wpList Tryd.prog ops Q rest (a.put dst undef) W) : wpList Tryd.prog ops Q (⟨dst, .store 22 x y, ty, pos, after, none⟩ :: rest) a w :=
  op_store_cell b 3 hx _ hy h.cells _ _ hr size_u32i (by show 3 < 21; decide) rfl rfl k
theorem y_se (b : Nat) (h : V) (t' : TypeId) (hS : ∀ V, S V → RowAt V b h.cells t') (hx : a.eval x = .pointer (some ⟨b, 3, none⟩)) :
    YieldsIf Tryd.prog ops S ⟨dst, .load 22 x, ty, pos, after, none⟩ (.int .u32 (h.se : Nat)) a := y_cell b 3 _ (fun V hV => ((hS V hV).cell 3).trans rfl) _ Tryd.underlying22 rfl hx
theorem ld_ir (b : Nat) (h : V) (t' : TypeId) (hr : RowAt w b h.cells t') (hx : a.eval x = .pointer (some ⟨b, 4, none⟩)) (hw : Region.wanted ⟨dst, .load 22 x, ty, pos, after, gd⟩ (yielded ops a.tmps) = true)
    (k : wpList Tryd.prog ops Q rest (a.put dst (.int .u32 (h.ir : Nat))) w) : wpList Tryd.prog ops Q (⟨dst, .load 22 x, ty, pos, after, gd⟩ :: rest) a w :=
  op_load_cellg b 4 hx h.cells _ _ hr rfl _ Tryd.underlying22 rfl hw k
theorem st_ir (b : Nat) (h : V) (n : Nat) (t' : TypeId) (hr : RowAt w b h.cells t') (hx : a.eval x = .pointer (some ⟨b, 4, none⟩)) (hy : a.eval y = .int .u32 (n : Nat))
    (k : ∀ W, RowAt W b (h.irw n).cells t' → Only b w W → wpList Tryd.prog ops Q rest (a.put dst undef) W) : wpList Tryd.prog ops Q (⟨dst, .store 22 x y, ty, pos, after, none⟩ :: rest) a w :=
  op_store_cell b 4 hx _ hy h.cells _ _ hr size_u32i (by show 4 < 21; decide) rfl rfl k
theorem y_ir (b : Nat) (h : V) (t' : TypeId) (hS : ∀ V, S V → RowAt V b h.cells t') (hx : a.eval x = .pointer (some ⟨b, 4, none⟩)) :
    YieldsIf Tryd.prog ops S ⟨dst, .load 22 x, ty, pos, after, none⟩ (.int .u32 (h.ir : Nat)) a := y_cell b 4 _ (fun V hV => ((hS V hV).cell 4).trans rfl) _ Tryd.underlying22 rfl hx
theorem ld_d0 (b : Nat) (h : V) (t' : TypeId) (hr : RowAt w b h.cells t') (hx : a.eval x = .pointer (some ⟨b, 5, none⟩)) (hw : Region.wanted ⟨dst, .load 22 x, ty, pos, after, gd⟩ (yielded ops a.tmps) = true)
    (k : wpList Tryd.prog ops Q rest (a.put dst (.int .u32 (h.d0 : Nat))) w) : wpList Tryd.prog ops Q (⟨dst, .load 22 x, ty, pos, after, gd⟩ :: rest) a w :=
  op_load_cellg b 5 hx h.cells _ _ hr rfl _ Tryd.underlying22 rfl hw k
theorem st_d0 (b : Nat) (h : V) (n : Nat) (t' : TypeId) (hr : RowAt w b h.cells t') (hx : a.eval x = .pointer (some ⟨b, 5, none⟩)) (hy : a.eval y = .int .u32 (n : Nat))
    (k : ∀ W, RowAt W b (h.d0w n).cells t' → Only b w W → wpList Tryd.prog ops Q rest (a.put dst undef) W) : wpList Tryd.prog ops Q (⟨dst, .store 22 x y, ty, pos, after, none⟩ :: rest) a w :=
  op_store_cell b 5 hx _ hy h.cells _ _ hr size_u32i (by show 5 < 21; decide) rfl rfl k
theorem y_d0 (b : Nat) (h : V) (t' : TypeId) (hS : ∀ V, S V → RowAt V b h.cells t') (hx : a.eval x = .pointer (some ⟨b, 5, none⟩)) :
    YieldsIf Tryd.prog ops S ⟨dst, .load 22 x, ty, pos, after, none⟩ (.int .u32 (h.d0 : Nat)) a := y_cell b 5 _ (fun V hV => ((hS V hV).cell 5).trans rfl) _ Tryd.underlying22 rfl hx
theorem ld_d1 (b : Nat) (h : V) (t' : TypeId) (hr : RowAt w b h.cells t') (hx : a.eval x = .pointer (some ⟨b, 6, none⟩)) (hw : Region.wanted ⟨dst, .load 22 x, ty, pos, after, gd⟩ (yielded ops a.tmps) = true)
    (k : wpList Tryd.prog ops Q rest (a.put dst (.int .u32 (h.d1 : Nat))) w) : wpList Tryd.prog ops Q (⟨dst, .load 22 x, ty, pos, after, gd⟩ :: rest) a w :=
  op_load_cellg b 6 hx h.cells _ _ hr rfl _ Tryd.underlying22 rfl hw k
theorem st_d1 (b : Nat) (h : V) (n : Nat) (t' : TypeId) (hr : RowAt w b h.cells t') (hx : a.eval x = .pointer (some ⟨b, 6, none⟩)) (hy : a.eval y = .int .u32 (n : Nat))
    (k : ∀ W, RowAt W b (h.d1w n).cells t' → Only b w W → wpList Tryd.prog ops Q rest (a.put dst undef) W) : wpList Tryd.prog ops Q (⟨dst, .store 22 x y, ty, pos, after, none⟩ :: rest) a w :=
  op_store_cell b 6 hx _ hy h.cells _ _ hr size_u32i (by show 6 < 21; decide) rfl rfl k
theorem y_d1 (b : Nat) (h : V) (t' : TypeId) (hS : ∀ V, S V → RowAt V b h.cells t') (hx : a.eval x = .pointer (some ⟨b, 6, none⟩)) :
    YieldsIf Tryd.prog ops S ⟨dst, .load 22 x, ty, pos, after, none⟩ (.int .u32 (h.d1 : Nat)) a := y_cell b 6 _ (fun V hV => ((hS V hV).cell 6).trans rfl) _ Tryd.underlying22 rfl hx
theorem ld_rd0 (b : Nat) (h : V) (t' : TypeId) (hr : RowAt w b h.cells t') (hx : a.eval x = .pointer (some ⟨b, 7, none⟩)) (hw : Region.wanted ⟨dst, .load 4 x, ty, pos, after, gd⟩ (yielded ops a.tmps) = true)
    (k : wpList Tryd.prog ops Q rest (a.put dst (.bool h.q0.rd)) w) : wpList Tryd.prog ops Q (⟨dst, .load 4 x, ty, pos, after, gd⟩ :: rest) a w :=
  op_load_cellg b 7 hx h.cells _ _ hr rfl _ Tryd.underlying4 rfl hw k
theorem st_rd0 (b : Nat) (h : V) (n : Bool) (t' : TypeId) (hr : RowAt w b h.cells t') (hx : a.eval x = .pointer (some ⟨b, 7, none⟩)) (hy : a.eval y = .bool n)
    (k : ∀ W, RowAt W b (h.q0w (h.q0.rdw n)).cells t' → Only b w W → wpList Tryd.prog ops Q rest (a.put dst undef) W) : wpList Tryd.prog ops Q (⟨dst, .store 4 x y, ty, pos, after, none⟩ :: rest) a w :=
  op_store_cell b 7 hx _ hy h.cells _ _ hr size_boi (by show 7 < 21; decide) rfl rfl k
theorem y_rd0 (b : Nat) (h : V) (t' : TypeId) (hS : ∀ V, S V → RowAt V b h.cells t') (hx : a.eval x = .pointer (some ⟨b, 7, none⟩)) :
    YieldsIf Tryd.prog ops S ⟨dst, .load 4 x, ty, pos, after, none⟩ (.bool h.q0.rd) a := y_cell b 7 _ (fun V hV => ((hS V hV).cell 7).trans rfl) _ Tryd.underlying4 rfl hx
theorem ld_rd1 (b : Nat) (h : V) (t' : TypeId) (hr : RowAt w b h.cells t') (hx : a.eval x = .pointer (some ⟨b, 14, none⟩)) (hw : Region.wanted ⟨dst, .load 4 x, ty, pos, after, gd⟩ (yielded ops a.tmps) = true)
    (k : wpList Tryd.prog ops Q rest (a.put dst (.bool h.q1.rd)) w) : wpList Tryd.prog ops Q (⟨dst, .load 4 x, ty, pos, after, gd⟩ :: rest) a w :=
  op_load_cellg b 14 hx h.cells _ _ hr rfl _ Tryd.underlying4 rfl hw k
theorem st_rd1 (b : Nat) (h : V) (n : Bool) (t' : TypeId) (hr : RowAt w b h.cells t') (hx : a.eval x = .pointer (some ⟨b, 14, none⟩)) (hy : a.eval y = .bool n)
    (k : ∀ W, RowAt W b (h.q1w (h.q1.rdw n)).cells t' → Only b w W → wpList Tryd.prog ops Q rest (a.put dst undef) W) : wpList Tryd.prog ops Q (⟨dst, .store 4 x y, ty, pos, after, none⟩ :: rest) a w :=
  op_store_cell b 14 hx _ hy h.cells _ _ hr size_boi (by show 14 < 21; decide) rfl rfl k
theorem y_rd1 (b : Nat) (h : V) (t' : TypeId) (hS : ∀ V, S V → RowAt V b h.cells t') (hx : a.eval x = .pointer (some ⟨b, 14, none⟩)) :
    YieldsIf Tryd.prog ops S ⟨dst, .load 4 x, ty, pos, after, none⟩ (.bool h.q1.rd) a := y_cell b 14 _ (fun V hV => ((hS V hV).cell 14).trans rfl) _ Tryd.underlying4 rfl hx
theorem ld_urd (b : Nat) (h : Qu) (t' : TypeId) (hr : RowAt w b h.cells t') (hx : a.eval x = .pointer (some ⟨b, 0, none⟩)) (hw : Region.wanted ⟨dst, .load 4 x, ty, pos, after, gd⟩ (yielded ops a.tmps) = true)
    (k : wpList Tryd.prog ops Q rest (a.put dst (.bool h.rd)) w) : wpList Tryd.prog ops Q (⟨dst, .load 4 x, ty, pos, after, gd⟩ :: rest) a w :=
  op_load_cellg b 0 hx h.cells _ _ hr rfl _ Tryd.underlying4 rfl hw k
theorem st_urd (b : Nat) (h : Qu) (n : Bool) (t' : TypeId) (hr : RowAt w b h.cells t') (hx : a.eval x = .pointer (some ⟨b, 0, none⟩)) (hy : a.eval y = .bool n)
    (k : ∀ W, RowAt W b (h.rdw n).cells t' → Only b w W → wpList Tryd.prog ops Q rest (a.put dst undef) W) : wpList Tryd.prog ops Q (⟨dst, .store 4 x y, ty, pos, after, none⟩ :: rest) a w :=
  op_store_cell b 0 hx _ hy h.cells _ _ hr size_boi (by show 0 < 7; decide) rfl rfl k
theorem y_urd (b : Nat) (h : Qu) (t' : TypeId) (hS : ∀ V, S V → RowAt V b h.cells t') (hx : a.eval x = .pointer (some ⟨b, 0, none⟩)) :
    YieldsIf Tryd.prog ops S ⟨dst, .load 4 x, ty, pos, after, none⟩ (.bool h.rd) a := y_cell b 0 _ (fun V hV => ((hS V hV).cell 0).trans rfl) _ Tryd.underlying4 rfl hx
theorem ld_sz0 (b : Nat) (h : V) (t' : TypeId) (hr : RowAt w b h.cells t') (hx : a.eval x = .pointer (some ⟨b, 8, none⟩)) (hw : Region.wanted ⟨dst, .load 3 x, ty, pos, after, gd⟩ (yielded ops a.tmps) = true)
    (k : wpList Tryd.prog ops Q rest (a.put dst (.int .i64 h.q0.r.sz)) w) : wpList Tryd.prog ops Q (⟨dst, .load 3 x, ty, pos, after, gd⟩ :: rest) a w :=
  op_load_cellg b 8 hx h.cells _ _ hr rfl _ Tryd.underlying3 rfl hw k
theorem st_sz0 (b : Nat) (h : V) (n : Int) (t' : TypeId) (hr : RowAt w b h.cells t') (hx : a.eval x = .pointer (some ⟨b, 8, none⟩)) (hy : a.eval y = .int .i64 n)
    (k : ∀ W, RowAt W b (h.q0w (h.q0.rw' (h.q0.r.szw n))).cells t' → Only b w W → wpList Tryd.prog ops Q rest (a.put dst undef) W) : wpList Tryd.prog ops Q (⟨dst, .store 3 x y, ty, pos, after, none⟩ :: rest) a w :=
  op_store_cell b 8 hx _ hy h.cells _ _ hr size_i64i (by show 8 < 21; decide) rfl rfl k
theorem y_sz0 (b : Nat) (h : V) (t' : TypeId) (hS : ∀ V, S V → RowAt V b h.cells t') (hx : a.eval x = .pointer (some ⟨b, 8, none⟩)) :
    YieldsIf Tryd.prog ops S ⟨dst, .load 3 x, ty, pos, after, none⟩ (.int .i64 h.q0.r.sz) a := y_cell b 8 _ (fun V hV => ((hS V hV).cell 8).trans rfl) _ Tryd.underlying3 rfl hx
theorem ld_sz1 (b : Nat) (h : V) (t' : TypeId) (hr : RowAt w b h.cells t') (hx : a.eval x = .pointer (some ⟨b, 15, none⟩)) (hw : Region.wanted ⟨dst, .load 3 x, ty, pos, after, gd⟩ (yielded ops a.tmps) = true)
    (k : wpList Tryd.prog ops Q rest (a.put dst (.int .i64 h.q1.r.sz)) w) : wpList Tryd.prog ops Q (⟨dst, .load 3 x, ty, pos, after, gd⟩ :: rest) a w :=
  op_load_cellg b 15 hx h.cells _ _ hr rfl _ Tryd.underlying3 rfl hw k
theorem st_sz1 (b : Nat) (h : V) (n : Int) (t' : TypeId) (hr : RowAt w b h.cells t') (hx : a.eval x = .pointer (some ⟨b, 15, none⟩)) (hy : a.eval y = .int .i64 n)
    (k : ∀ W, RowAt W b (h.q1w (h.q1.rw' (h.q1.r.szw n))).cells t' → Only b w W → wpList Tryd.prog ops Q rest (a.put dst undef) W) : wpList Tryd.prog ops Q (⟨dst, .store 3 x y, ty, pos, after, none⟩ :: rest) a w :=
  op_store_cell b 15 hx _ hy h.cells _ _ hr size_i64i (by show 15 < 21; decide) rfl rfl k
theorem y_sz1 (b : Nat) (h : V) (t' : TypeId) (hS : ∀ V, S V → RowAt V b h.cells t') (hx : a.eval x = .pointer (some ⟨b, 15, none⟩)) :
    YieldsIf Tryd.prog ops S ⟨dst, .load 3 x, ty, pos, after, none⟩ (.int .i64 h.q1.r.sz) a := y_cell b 15 _ (fun V hV => ((hS V hV).cell 15).trans rfl) _ Tryd.underlying3 rfl hx
theorem ld_usz (b : Nat) (h : Qu) (t' : TypeId) (hr : RowAt w b h.cells t') (hx : a.eval x = .pointer (some ⟨b, 1, none⟩)) (hw : Region.wanted ⟨dst, .load 3 x, ty, pos, after, gd⟩ (yielded ops a.tmps) = true)
    (k : wpList Tryd.prog ops Q rest (a.put dst (.int .i64 h.r.sz)) w) : wpList Tryd.prog ops Q (⟨dst, .load 3 x, ty, pos, after, gd⟩ :: rest) a w :=
  op_load_cellg b 1 hx h.cells _ _ hr rfl _ Tryd.underlying3 rfl hw k
theorem st_usz (b : Nat) (h : Qu) (n : Int) (t' : TypeId) (hr : RowAt w b h.cells t') (hx : a.eval x = .pointer (some ⟨b, 1, none⟩)) (hy : a.eval y = .int .i64 n)
    (k : ∀ W, RowAt W b (h.rw' (h.r.szw n)).cells t' → Only b w W → wpList Tryd.prog ops Q rest (a.put dst undef) W) : wpList Tryd.prog ops Q (⟨dst, .store 3 x y, ty, pos, after, none⟩ :: rest) a w :=
  op_store_cell b 1 hx _ hy h.cells _ _ hr size_i64i (by show 1 < 7; decide) rfl rfl k
theorem y_usz (b : Nat) (h : Qu) (t' : TypeId) (hS : ∀ V, S V → RowAt V b h.cells t') (hx : a.eval x = .pointer (some ⟨b, 1, none⟩)) :
    YieldsIf Tryd.prog ops S ⟨dst, .load 3 x, ty, pos, after, none⟩ (.int .i64 h.r.sz) a := y_cell b 1 _ (fun V hV => ((hS V hV).cell 1).trans rfl) _ Tryd.underlying3 rfl hx
theorem ld_de0 (b : Nat) (h : V) (t' : TypeId) (hr : RowAt w b h.cells t') (hx : a.eval x = .pointer (some ⟨b, 9, none⟩)) (hw : Region.wanted ⟨dst, .load 22 x, ty, pos, after, gd⟩ (yielded ops a.tmps) = true)
    (k : wpList Tryd.prog ops Q rest (a.put dst (.int .u32 (h.q0.r.de : Nat))) w) : wpList Tryd.prog ops Q (⟨dst, .load 22 x, ty, pos, after, gd⟩ :: rest) a w :=
  op_load_cellg b 9 hx h.cells _ _ hr rfl _ Tryd.underlying22 rfl hw k
theorem st_de0 (b : Nat) (h : V) (n : Nat) (t' : TypeId) (hr : RowAt w b h.cells t') (hx : a.eval x = .pointer (some ⟨b, 9, none⟩)) (hy : a.eval y = .int .u32 (n : Nat))
    (k : ∀ W, RowAt W b (h.q0w (h.q0.rw' (h.q0.r.dew n))).cells t' → Only b w W → wpList Tryd.prog ops Q rest (a.put dst undef) W) : wpList Tryd.prog ops Q (⟨dst, .store 22 x y, ty, pos, after, none⟩ :: rest) a w :=
  op_store_cell b 9 hx _ hy h.cells _ _ hr size_u32i (by show 9 < 21; decide) rfl rfl k
theorem y_de0 (b : Nat) (h : V) (t' : TypeId) (hS : ∀ V, S V → RowAt V b h.cells t') (hx : a.eval x = .pointer (some ⟨b, 9, none⟩)) :
    YieldsIf Tryd.prog ops S ⟨dst, .load 22 x, ty, pos, after, none⟩ (.int .u32 (h.q0.r.de : Nat)) a := y_cell b 9 _ (fun V hV => ((hS V hV).cell 9).trans rfl) _ Tryd.underlying22 rfl hx
theorem ld_de1 (b : Nat) (h : V) (t' : TypeId) (hr : RowAt w b h.cells t') (hx : a.eval x = .pointer (some ⟨b, 16, none⟩)) (hw : Region.wanted ⟨dst, .load 22 x, ty, pos, after, gd⟩ (yielded ops a.tmps) = true)
    (k : wpList Tryd.prog ops Q rest (a.put dst (.int .u32 (h.q1.r.de : Nat))) w) : wpList Tryd.prog ops Q (⟨dst, .load 22 x, ty, pos, after, gd⟩ :: rest) a w :=
  op_load_cellg b 16 hx h.cells _ _ hr rfl _ Tryd.underlying22 rfl hw k
theorem st_de1 (b : Nat) (h : V) (n : Nat) (t' : TypeId) (hr : RowAt w b h.cells t') (hx : a.eval x = .pointer (some ⟨b, 16, none⟩)) (hy : a.eval y = .int .u32 (n : Nat))
    (k : ∀ W, RowAt W b (h.q1w (h.q1.rw' (h.q1.r.dew n))).cells t' → Only b w W → wpList Tryd.prog ops Q rest (a.put dst undef) W) : wpList Tryd.prog ops Q (⟨dst, .store 22 x y, ty, pos, after, none⟩ :: rest) a w :=
  op_store_cell b 16 hx _ hy h.cells _ _ hr size_u32i (by show 16 < 21; decide) rfl rfl k
theorem y_de1 (b : Nat) (h : V) (t' : TypeId) (hS : ∀ V, S V → RowAt V b h.cells t') (hx : a.eval x = .pointer (some ⟨b, 16, none⟩)) :
    YieldsIf Tryd.prog ops S ⟨dst, .load 22 x, ty, pos, after, none⟩ (.int .u32 (h.q1.r.de : Nat)) a := y_cell b 16 _ (fun V hV => ((hS V hV).cell 16).trans rfl) _ Tryd.underlying22 rfl hx
theorem ld_ude (b : Nat) (h : Qu) (t' : TypeId) (hr : RowAt w b h.cells t') (hx : a.eval x = .pointer (some ⟨b, 2, none⟩)) (hw : Region.wanted ⟨dst, .load 22 x, ty, pos, after, gd⟩ (yielded ops a.tmps) = true)
    (k : wpList Tryd.prog ops Q rest (a.put dst (.int .u32 (h.r.de : Nat))) w) : wpList Tryd.prog ops Q (⟨dst, .load 22 x, ty, pos, after, gd⟩ :: rest) a w :=
  op_load_cellg b 2 hx h.cells _ _ hr rfl _ Tryd.underlying22 rfl hw k
theorem st_ude (b : Nat) (h : Qu) (n : Nat) (t' : TypeId) (hr : RowAt w b h.cells t') (hx : a.eval x = .pointer (some ⟨b, 2, none⟩)) (hy : a.eval y = .int .u32 (n : Nat))
    (k : ∀ W, RowAt W b (h.rw' (h.r.dew n)).cells t' → Only b w W → wpList Tryd.prog ops Q rest (a.put dst undef) W) : wpList Tryd.prog ops Q (⟨dst, .store 22 x y, ty, pos, after, none⟩ :: rest) a w :=
  op_store_cell b 2 hx _ hy h.cells _ _ hr size_u32i (by show 2 < 7; decide) rfl rfl k
theorem y_ude (b : Nat) (h : Qu) (t' : TypeId) (hS : ∀ V, S V → RowAt V b h.cells t') (hx : a.eval x = .pointer (some ⟨b, 2, none⟩)) :
    YieldsIf Tryd.prog ops S ⟨dst, .load 22 x, ty, pos, after, none⟩ (.int .u32 (h.r.de : Nat)) a := y_cell b 2 _ (fun V hV => ((hS V hV).cell 2).trans rfl) _ Tryd.underlying22 rfl hx
theorem ld_av0 (b : Nat) (h : V) (t' : TypeId) (hr : RowAt w b h.cells t') (hx : a.eval x = .pointer (some ⟨b, 10, none⟩)) (hw : Region.wanted ⟨dst, .load 22 x, ty, pos, after, gd⟩ (yielded ops a.tmps) = true)
    (k : wpList Tryd.prog ops Q rest (a.put dst (.int .u32 (h.q0.r.av : Nat))) w) : wpList Tryd.prog ops Q (⟨dst, .load 22 x, ty, pos, after, gd⟩ :: rest) a w :=
  op_load_cellg b 10 hx h.cells _ _ hr rfl _ Tryd.underlying22 rfl hw k
theorem st_av0 (b : Nat) (h : V) (n : Nat) (t' : TypeId) (hr : RowAt w b h.cells t') (hx : a.eval x = .pointer (some ⟨b, 10, none⟩)) (hy : a.eval y = .int .u32 (n : Nat))
    (k : ∀ W, RowAt W b (h.q0w (h.q0.rw' (h.q0.r.avw n))).cells t' → Only b w W → wpList Tryd.prog ops Q rest (a.put dst undef) W) : wpList Tryd.prog ops Q (⟨dst, .store 22 x y, ty, pos, after, none⟩ :: rest) a w :=
  op_store_cell b 10 hx _ hy h.cells _ _ hr size_u32i (by show 10 < 21; decide) rfl rfl k
theorem y_av0 (b : Nat) (h : V) (t' : TypeId) (hS : ∀ V, S V → RowAt V b h.cells t') (hx : a.eval x = .pointer (some ⟨b, 10, none⟩)) :
    YieldsIf Tryd.prog ops S ⟨dst, .load 22 x, ty, pos, after, none⟩ (.int .u32 (h.q0.r.av : Nat)) a := y_cell b 10 _ (fun V hV => ((hS V hV).cell 10).trans rfl) _ Tryd.underlying22 rfl hx
theorem ld_av1 (b : Nat) (h : V) (t' : TypeId) (hr : RowAt w b h.cells t') (hx : a.eval x = .pointer (some ⟨b, 17, none⟩)) (hw : Region.wanted ⟨dst, .load 22 x, ty, pos, after, gd⟩ (yielded ops a.tmps) = true)
    (k : wpList Tryd.prog ops Q rest (a.put dst (.int .u32 (h.q1.r.av : Nat))) w) : wpList Tryd.prog ops Q (⟨dst, .load 22 x, ty, pos, after, gd⟩ :: rest) a w :=
  op_load_cellg b 17 hx h.cells _ _ hr rfl _ Tryd.underlying22 rfl hw k
theorem st_av1 (b : Nat) (h : V) (n : Nat) (t' : TypeId) (hr : RowAt w b h.cells t') (hx : a.eval x = .pointer (some ⟨b, 17, none⟩)) (hy : a.eval y = .int .u32 (n : Nat))
    (k : ∀ W, RowAt W b (h.q1w (h.q1.rw' (h.q1.r.avw n))).cells t' → Only b w W → wpList Tryd.prog ops Q rest (a.put dst undef) W) : wpList Tryd.prog ops Q (⟨dst, .store 22 x y, ty, pos, after, none⟩ :: rest) a w :=
  op_store_cell b 17 hx _ hy h.cells _ _ hr size_u32i (by show 17 < 21; decide) rfl rfl k
theorem y_av1 (b : Nat) (h : V) (t' : TypeId) (hS : ∀ V, S V → RowAt V b h.cells t') (hx : a.eval x = .pointer (some ⟨b, 17, none⟩)) :
    YieldsIf Tryd.prog ops S ⟨dst, .load 22 x, ty, pos, after, none⟩ (.int .u32 (h.q1.r.av : Nat)) a := y_cell b 17 _ (fun V hV => ((hS V hV).cell 17).trans rfl) _ Tryd.underlying22 rfl hx
theorem ld_uav (b : Nat) (h : Qu) (t' : TypeId) (hr : RowAt w b h.cells t') (hx : a.eval x = .pointer (some ⟨b, 3, none⟩)) (hw : Region.wanted ⟨dst, .load 22 x, ty, pos, after, gd⟩ (yielded ops a.tmps) = true)
    (k : wpList Tryd.prog ops Q rest (a.put dst (.int .u32 (h.r.av : Nat))) w) : wpList Tryd.prog ops Q (⟨dst, .load 22 x, ty, pos, after, gd⟩ :: rest) a w :=
  op_load_cellg b 3 hx h.cells _ _ hr rfl _ Tryd.underlying22 rfl hw k
theorem st_uav (b : Nat) (h : Qu) (n : Nat) (t' : TypeId) (hr : RowAt w b h.cells t') (hx : a.eval x = .pointer (some ⟨b, 3, none⟩)) (hy : a.eval y = .int .u32 (n : Nat))
    (k : ∀ W, RowAt W b (h.rw' (h.r.avw n)).cells t' → Only b w W → wpList Tryd.prog ops Q rest (a.put dst undef) W) : wpList Tryd.prog ops Q (⟨dst, .store 22 x y, ty, pos, after, none⟩ :: rest) a w :=
  op_store_cell b 3 hx _ hy h.cells _ _ hr size_u32i (by show 3 < 7; decide) rfl rfl k
theorem y_uav (b : Nat) (h : Qu) (t' : TypeId) (hS : ∀ V, S V → RowAt V b h.cells t') (hx : a.eval x = .pointer (some ⟨b, 3, none⟩)) :
    YieldsIf Tryd.prog ops S ⟨dst, .load 22 x, ty, pos, after, none⟩ (.int .u32 (h.r.av : Nat)) a := y_cell b 3 _ (fun V hV => ((hS V hV).cell 3).trans rfl) _ Tryd.underlying22 rfl hx
theorem ld_us0 (b : Nat) (h : V) (t' : TypeId) (hr : RowAt w b h.cells t') (hx : a.eval x = .pointer (some ⟨b, 11, none⟩)) (hw : Region.wanted ⟨dst, .load 22 x, ty, pos, after, gd⟩ (yielded ops a.tmps) = true)
    (k : wpList Tryd.prog ops Q rest (a.put dst (.int .u32 (h.q0.r.us : Nat))) w) : wpList Tryd.prog ops Q (⟨dst, .load 22 x, ty, pos, after, gd⟩ :: rest) a w :=
  op_load_cellg b 11 hx h.cells _ _ hr rfl _ Tryd.underlying22 rfl hw k
theorem st_us0 (b : Nat) (h : V) (n : Nat) (t' : TypeId) (hr : RowAt w b h.cells t') (hx : a.eval x = .pointer (some ⟨b, 11, none⟩)) (hy : a.eval y = .int .u32 (n : Nat))
    (k : ∀ W, RowAt W b (h.q0w (h.q0.rw' (h.q0.r.usw n))).cells t' → Only b w W → wpList Tryd.prog ops Q rest (a.put dst undef) W) : wpList Tryd.prog ops Q (⟨dst, .store 22 x y, ty, pos, after, none⟩ :: rest) a w :=
  op_store_cell b 11 hx _ hy h.cells _ _ hr size_u32i (by show 11 < 21; decide) rfl rfl k
theorem y_us0 (b : Nat) (h : V) (t' : TypeId) (hS : ∀ V, S V → RowAt V b h.cells t') (hx : a.eval x = .pointer (some ⟨b, 11, none⟩)) :
    YieldsIf Tryd.prog ops S ⟨dst, .load 22 x, ty, pos, after, none⟩ (.int .u32 (h.q0.r.us : Nat)) a := y_cell b 11 _ (fun V hV => ((hS V hV).cell 11).trans rfl) _ Tryd.underlying22 rfl hx
theorem ld_us1 (b : Nat) (h : V) (t' : TypeId) (hr : RowAt w b h.cells t') (hx : a.eval x = .pointer (some ⟨b, 18, none⟩)) (hw : Region.wanted ⟨dst, .load 22 x, ty, pos, after, gd⟩ (yielded ops a.tmps) = true)
    (k : wpList Tryd.prog ops Q rest (a.put dst (.int .u32 (h.q1.r.us : Nat))) w) : wpList Tryd.prog ops Q (⟨dst, .load 22 x, ty, pos, after, gd⟩ :: rest) a w :=
  op_load_cellg b 18 hx h.cells _ _ hr rfl _ Tryd.underlying22 rfl hw k
theorem st_us1 (b : Nat) (h : V) (n : Nat) (t' : TypeId) (hr : RowAt w b h.cells t') (hx : a.eval x = .pointer (some ⟨b, 18, none⟩)) (hy : a.eval y = .int .u32 (n : Nat))
    (k : ∀ W, RowAt W b (h.q1w (h.q1.rw' (h.q1.r.usw n))).cells t' → Only b w W → wpList Tryd.prog ops Q rest (a.put dst undef) W) : wpList Tryd.prog ops Q (⟨dst, .store 22 x y, ty, pos, after, none⟩ :: rest) a w :=
  op_store_cell b 18 hx _ hy h.cells _ _ hr size_u32i (by show 18 < 21; decide) rfl rfl k
theorem y_us1 (b : Nat) (h : V) (t' : TypeId) (hS : ∀ V, S V → RowAt V b h.cells t') (hx : a.eval x = .pointer (some ⟨b, 18, none⟩)) :
    YieldsIf Tryd.prog ops S ⟨dst, .load 22 x, ty, pos, after, none⟩ (.int .u32 (h.q1.r.us : Nat)) a := y_cell b 18 _ (fun V hV => ((hS V hV).cell 18).trans rfl) _ Tryd.underlying22 rfl hx
theorem ld_uus (b : Nat) (h : Qu) (t' : TypeId) (hr : RowAt w b h.cells t') (hx : a.eval x = .pointer (some ⟨b, 4, none⟩)) (hw : Region.wanted ⟨dst, .load 22 x, ty, pos, after, gd⟩ (yielded ops a.tmps) = true)
    (k : wpList Tryd.prog ops Q rest (a.put dst (.int .u32 (h.r.us : Nat))) w) : wpList Tryd.prog ops Q (⟨dst, .load 22 x, ty, pos, after, gd⟩ :: rest) a w :=
  op_load_cellg b 4 hx h.cells _ _ hr rfl _ Tryd.underlying22 rfl hw k
theorem st_uus (b : Nat) (h : Qu) (n : Nat) (t' : TypeId) (hr : RowAt w b h.cells t') (hx : a.eval x = .pointer (some ⟨b, 4, none⟩)) (hy : a.eval y = .int .u32 (n : Nat))
    (k : ∀ W, RowAt W b (h.rw' (h.r.usw n)).cells t' → Only b w W → wpList Tryd.prog ops Q rest (a.put dst undef) W) : wpList Tryd.prog ops Q (⟨dst, .store 22 x y, ty, pos, after, none⟩ :: rest) a w :=
  op_store_cell b 4 hx _ hy h.cells _ _ hr size_u32i (by show 4 < 7; decide) rfl rfl k
theorem y_uus (b : Nat) (h : Qu) (t' : TypeId) (hS : ∀ V, S V → RowAt V b h.cells t') (hx : a.eval x = .pointer (some ⟨b, 4, none⟩)) :
    YieldsIf Tryd.prog ops S ⟨dst, .load 22 x, ty, pos, after, none⟩ (.int .u32 (h.r.us : Nat)) a := y_cell b 4 _ (fun V hV => ((hS V hV).cell 4).trans rfl) _ Tryd.underlying22 rfl hx
theorem ld_la0 (b : Nat) (h : V) (t' : TypeId) (hr : RowAt w b h.cells t') (hx : a.eval x = .pointer (some ⟨b, 12, none⟩)) (hw : Region.wanted ⟨dst, .load 24 x, ty, pos, after, gd⟩ (yielded ops a.tmps) = true)
    (k : wpList Tryd.prog ops Q rest (a.put dst (.int .u16 (h.q0.r.la : Nat))) w) : wpList Tryd.prog ops Q (⟨dst, .load 24 x, ty, pos, after, gd⟩ :: rest) a w :=
  op_load_cellg b 12 hx h.cells _ _ hr rfl _ Tryd.underlying24 rfl hw k
theorem st_la0 (b : Nat) (h : V) (n : Nat) (t' : TypeId) (hr : RowAt w b h.cells t') (hx : a.eval x = .pointer (some ⟨b, 12, none⟩)) (hy : a.eval y = .int .u16 (n : Nat))
    (k : ∀ W, RowAt W b (h.q0w (h.q0.rw' (h.q0.r.law n))).cells t' → Only b w W → wpList Tryd.prog ops Q rest (a.put dst undef) W) : wpList Tryd.prog ops Q (⟨dst, .store 24 x y, ty, pos, after, none⟩ :: rest) a w :=
  op_store_cell b 12 hx _ hy h.cells _ _ hr size_u16i (by show 12 < 21; decide) rfl rfl k
theorem y_la0 (b : Nat) (h : V) (t' : TypeId) (hS : ∀ V, S V → RowAt V b h.cells t') (hx : a.eval x = .pointer (some ⟨b, 12, none⟩)) :
    YieldsIf Tryd.prog ops S ⟨dst, .load 24 x, ty, pos, after, none⟩ (.int .u16 (h.q0.r.la : Nat)) a := y_cell b 12 _ (fun V hV => ((hS V hV).cell 12).trans rfl) _ Tryd.underlying24 rfl hx
theorem ld_la1 (b : Nat) (h : V) (t' : TypeId) (hr : RowAt w b h.cells t') (hx : a.eval x = .pointer (some ⟨b, 19, none⟩)) (hw : Region.wanted ⟨dst, .load 24 x, ty, pos, after, gd⟩ (yielded ops a.tmps) = true)
    (k : wpList Tryd.prog ops Q rest (a.put dst (.int .u16 (h.q1.r.la : Nat))) w) : wpList Tryd.prog ops Q (⟨dst, .load 24 x, ty, pos, after, gd⟩ :: rest) a w :=
  op_load_cellg b 19 hx h.cells _ _ hr rfl _ Tryd.underlying24 rfl hw k
theorem st_la1 (b : Nat) (h : V) (n : Nat) (t' : TypeId) (hr : RowAt w b h.cells t') (hx : a.eval x = .pointer (some ⟨b, 19, none⟩)) (hy : a.eval y = .int .u16 (n : Nat))
    (k : ∀ W, RowAt W b (h.q1w (h.q1.rw' (h.q1.r.law n))).cells t' → Only b w W → wpList Tryd.prog ops Q rest (a.put dst undef) W) : wpList Tryd.prog ops Q (⟨dst, .store 24 x y, ty, pos, after, none⟩ :: rest) a w :=
  op_store_cell b 19 hx _ hy h.cells _ _ hr size_u16i (by show 19 < 21; decide) rfl rfl k
theorem y_la1 (b : Nat) (h : V) (t' : TypeId) (hS : ∀ V, S V → RowAt V b h.cells t') (hx : a.eval x = .pointer (some ⟨b, 19, none⟩)) :
    YieldsIf Tryd.prog ops S ⟨dst, .load 24 x, ty, pos, after, none⟩ (.int .u16 (h.q1.r.la : Nat)) a := y_cell b 19 _ (fun V hV => ((hS V hV).cell 19).trans rfl) _ Tryd.underlying24 rfl hx
theorem ld_ula (b : Nat) (h : Qu) (t' : TypeId) (hr : RowAt w b h.cells t') (hx : a.eval x = .pointer (some ⟨b, 5, none⟩)) (hw : Region.wanted ⟨dst, .load 24 x, ty, pos, after, gd⟩ (yielded ops a.tmps) = true)
    (k : wpList Tryd.prog ops Q rest (a.put dst (.int .u16 (h.r.la : Nat))) w) : wpList Tryd.prog ops Q (⟨dst, .load 24 x, ty, pos, after, gd⟩ :: rest) a w :=
  op_load_cellg b 5 hx h.cells _ _ hr rfl _ Tryd.underlying24 rfl hw k
theorem st_ula (b : Nat) (h : Qu) (n : Nat) (t' : TypeId) (hr : RowAt w b h.cells t') (hx : a.eval x = .pointer (some ⟨b, 5, none⟩)) (hy : a.eval y = .int .u16 (n : Nat))
    (k : ∀ W, RowAt W b (h.rw' (h.r.law n)).cells t' → Only b w W → wpList Tryd.prog ops Q rest (a.put dst undef) W) : wpList Tryd.prog ops Q (⟨dst, .store 24 x y, ty, pos, after, none⟩ :: rest) a w :=
  op_store_cell b 5 hx _ hy h.cells _ _ hr size_u16i (by show 5 < 7; decide) rfl rfl k
theorem y_ula (b : Nat) (h : Qu) (t' : TypeId) (hS : ∀ V, S V → RowAt V b h.cells t') (hx : a.eval x = .pointer (some ⟨b, 5, none⟩)) :
    YieldsIf Tryd.prog ops S ⟨dst, .load 24 x, ty, pos, after, none⟩ (.int .u16 (h.r.la : Nat)) a := y_cell b 5 _ (fun V hV => ((hS V hV).cell 5).trans rfl) _ Tryd.underlying24 rfl hx
theorem ld_pu0 (b : Nat) (h : V) (t' : TypeId) (hr : RowAt w b h.cells t') (hx : a.eval x = .pointer (some ⟨b, 13, none⟩)) (hw : Region.wanted ⟨dst, .load 24 x, ty, pos, after, gd⟩ (yielded ops a.tmps) = true)
    (k : wpList Tryd.prog ops Q rest (a.put dst (.int .u16 (h.q0.r.pu : Nat))) w) : wpList Tryd.prog ops Q (⟨dst, .load 24 x, ty, pos, after, gd⟩ :: rest) a w :=
  op_load_cellg b 13 hx h.cells _ _ hr rfl _ Tryd.underlying24 rfl hw k
theorem st_pu0 (b : Nat) (h : V) (n : Nat) (t' : TypeId) (hr : RowAt w b h.cells t') (hx : a.eval x = .pointer (some ⟨b, 13, none⟩)) (hy : a.eval y = .int .u16 (n : Nat))
    (k : ∀ W, RowAt W b (h.q0w (h.q0.rw' (h.q0.r.puw n))).cells t' → Only b w W → wpList Tryd.prog ops Q rest (a.put dst undef) W) : wpList Tryd.prog ops Q (⟨dst, .store 24 x y, ty, pos, after, none⟩ :: rest) a w :=
  op_store_cell b 13 hx _ hy h.cells _ _ hr size_u16i (by show 13 < 21; decide) rfl rfl k
theorem y_pu0 (b : Nat) (h : V) (t' : TypeId) (hS : ∀ V, S V → RowAt V b h.cells t') (hx : a.eval x = .pointer (some ⟨b, 13, none⟩)) :
    YieldsIf Tryd.prog ops S ⟨dst, .load 24 x, ty, pos, after, none⟩ (.int .u16 (h.q0.r.pu : Nat)) a := y_cell b 13 _ (fun V hV => ((hS V hV).cell 13).trans rfl) _ Tryd.underlying24 rfl hx
theorem ld_pu1 (b : Nat) (h : V) (t' : TypeId) (hr : RowAt w b h.cells t') (hx : a.eval x = .pointer (some ⟨b, 20, none⟩)) (hw : Region.wanted ⟨dst, .load 24 x, ty, pos, after, gd⟩ (yielded ops a.tmps) = true)
    (k : wpList Tryd.prog ops Q rest (a.put dst (.int .u16 (h.q1.r.pu : Nat))) w) : wpList Tryd.prog ops Q (⟨dst, .load 24 x, ty, pos, after, gd⟩ :: rest) a w :=
  op_load_cellg b 20 hx h.cells _ _ hr rfl _ Tryd.underlying24 rfl hw k
theorem st_pu1 (b : Nat) (h : V) (n : Nat) (t' : TypeId) (hr : RowAt w b h.cells t') (hx : a.eval x = .pointer (some ⟨b, 20, none⟩)) (hy : a.eval y = .int .u16 (n : Nat))
    (k : ∀ W, RowAt W b (h.q1w (h.q1.rw' (h.q1.r.puw n))).cells t' → Only b w W → wpList Tryd.prog ops Q rest (a.put dst undef) W) : wpList Tryd.prog ops Q (⟨dst, .store 24 x y, ty, pos, after, none⟩ :: rest) a w :=
  op_store_cell b 20 hx _ hy h.cells _ _ hr size_u16i (by show 20 < 21; decide) rfl rfl k
theorem y_pu1 (b : Nat) (h : V) (t' : TypeId) (hS : ∀ V, S V → RowAt V b h.cells t') (hx : a.eval x = .pointer (some ⟨b, 20, none⟩)) :
    YieldsIf Tryd.prog ops S ⟨dst, .load 24 x, ty, pos, after, none⟩ (.int .u16 (h.q1.r.pu : Nat)) a := y_cell b 20 _ (fun V hV => ((hS V hV).cell 20).trans rfl) _ Tryd.underlying24 rfl hx
theorem ld_upu (b : Nat) (h : Qu) (t' : TypeId) (hr : RowAt w b h.cells t') (hx : a.eval x = .pointer (some ⟨b, 6, none⟩)) (hw : Region.wanted ⟨dst, .load 24 x, ty, pos, after, gd⟩ (yielded ops a.tmps) = true)
    (k : wpList Tryd.prog ops Q rest (a.put dst (.int .u16 (h.r.pu : Nat))) w) : wpList Tryd.prog ops Q (⟨dst, .load 24 x, ty, pos, after, gd⟩ :: rest) a w :=
  op_load_cellg b 6 hx h.cells _ _ hr rfl _ Tryd.underlying24 rfl hw k
theorem st_upu (b : Nat) (h : Qu) (n : Nat) (t' : TypeId) (hr : RowAt w b h.cells t') (hx : a.eval x = .pointer (some ⟨b, 6, none⟩)) (hy : a.eval y = .int .u16 (n : Nat))
    (k : ∀ W, RowAt W b (h.rw' (h.r.puw n)).cells t' → Only b w W → wpList Tryd.prog ops Q rest (a.put dst undef) W) : wpList Tryd.prog ops Q (⟨dst, .store 24 x y, ty, pos, after, none⟩ :: rest) a w :=
  op_store_cell b 6 hx _ hy h.cells _ _ hr size_u16i (by show 6 < 7; decide) rfl rfl k
theorem y_upu (b : Nat) (h : Qu) (t' : TypeId) (hS : ∀ V, S V → RowAt V b h.cells t') (hx : a.eval x = .pointer (some ⟨b, 6, none⟩)) :
    YieldsIf Tryd.prog ops S ⟨dst, .load 24 x, ty, pos, after, none⟩ (.int .u16 (h.r.pu : Nat)) a := y_cell b 6 _ (fun V hV => ((hS V hV).cell 6).trans rfl) _ Tryd.underlying24 rfl hx
theorem results_cell_one' {P : Program} {fn : Func} {p u : Tmp} {ty : TypeId} (h : fn.results = #[.cell p ty, .tmp u]) (tmps : Array Value) (w : World) (g : Nat) (t : TypeId) (cs : Array Value) (d : TypeDesc)
    (hp : tmps.getD p undef = .pointer (some ⟨g, 0, none⟩)) (hg : RowAt w g cs t) (hu : P.underlying ty = some d) (hd : d.isRow = true) (hi : (P.info? ty).map (·.size) = some cs.size) :
    (results fn tmps).run P w = .ok (.tuple #[.agg cs, tmps.getD u undef]) w := by
  have e : tmps[p]?.getD undef = .pointer (some ⟨g, 0, none⟩) := by simpa using hp
  have l := run_loadVar_row w g t ty cs (0, 0) d hg hu (by cases d <;> first | rfl | cases hd) hi
  simp [results, h, e, asAddr, l]
theorem results_cell_two' {P : Program} {fn : Func} {p u v : Tmp} {ty : TypeId} (h : fn.results = #[.cell p ty, .tmp u, .tmp v]) (tmps : Array Value) (w : World) (g : Nat) (t : TypeId) (cs : Array Value) (d : TypeDesc)
    (hp : tmps.getD p undef = .pointer (some ⟨g, 0, none⟩)) (hg : RowAt w g cs t) (hu : P.underlying ty = some d) (hd : d.isRow = true) (hi : (P.info? ty).map (·.size) = some cs.size) :
    (results fn tmps).run P w = .ok (.tuple #[.agg cs, tmps.getD u undef, tmps.getD v undef]) w := by
  have e : tmps[p]?.getD undef = .pointer (some ⟨g, 0, none⟩) := by simpa using hp
  have l := run_loadVar_row w g t ty cs (0, 0) d hg hu (by cases d <;> first | rfl | cases hd) hi
  simp [results, h, e, asAddr, l]
end Go.Proofs.YtahgacdkofmbmaaDoor
