/-
  A timer in a block of its own: its numbers, and what stores make of them.
-/
import Derived.Test.YtjibjginafjpcaaDoorOps
import Derived.Test.YtjibjginafjpcaaDoorClMath
import Derived.Deep.WholeRow
import Derived.Laws.BitsAllLaws
import Derived.RegionTactic
import Derived.Laws.ResultCell
namespace Go.Proofs.YtjibjginafjpcaaDoor
open Go.RowKit
set_option linter.unusedVariables false

def S3.cells (s : S3) : Array Value := #[.int .u32 (s.so : Nat), .int .u64 (s.ti : Nat), .int .u64 (s.cm : Nat)]
theorem S3.at0 (s : S3) : s.cells[0]? = some (.int .u32 (s.so : Nat)) := rfl
theorem S3.at1 (s : S3) : s.cells[1]? = some (.int .u64 (s.ti : Nat)) := rfl
theorem S3.at2 (s : S3) : s.cells[2]? = some (.int .u64 (s.cm : Nat)) := rfl
theorem size_word : (Tryd.prog.info? 22).map (·.size) = some 1 := by kernel_rfl
theorem size_long : (Tryd.prog.info? 23).map (·.size) = some 1 := by kernel_rfl
theorem S3.size (s : S3) : s.cells.size = 3 := rfl
theorem s_one (s : S3) : s.cells.all (·.oneCell') = true := by simp [S3.cells, Value.oneCell']
theorem ret_agg {cs ds : Array Value} (h : cs = ds) : Ending.returned (.agg cs) = .returned (.agg ds) := by rw [h]
variable {ops : Array Oper} {rest : List Oper} {dst : Option Tmp} {ty : TypeId} {pos : String} {after : Array Edge} {a : Act} {w : World} {Q : Exit → Act → World → Prop} {x y : Operand} {b : Nat} {S : World → Prop} {K : Act → World → Prop}
theorem size_p : (Tryd.prog.info? 30).map (·.size) = some 3 := by kernel_rfl
theorem zero_p (w : World) : (zeroValue 30).run Tryd.prog w = .ok (.agg zeroS.cells) w :=
  (zero_of_info (P := Tryd.prog) (t := 30) (v := .agg zeroS.cells) (n := 3) (by kernel_rfl)).1 w
theorem bx_p (N : Nat) (h : S3) (hN : w.heap.size = N) (hx : a.eval x = .agg h.cells)
    (k : ∀ W, RowAt W N h.cells 30 → Below N w W → Hid (W.heap.size = N + 1) → wpList Tryd.prog ops Q rest (a.put dst (.pointer (some ⟨N, 0, none⟩))) W) :
    wpList Tryd.prog ops Q (⟨dst, .box 30 x, ty, pos, after, none⟩ :: rest) a w := op_box N hN h.cells hx k
theorem al_p (N : Nat) (hN : w.heap.size = N)
    (k : ∀ W, RowAt W N zeroS.cells 30 → Below N w W → Hid (W.heap.size = N + 1) → wpList Tryd.prog ops Q rest (a.put dst (.pointer (some ⟨N, 0, none⟩))) W) :
    wpList Tryd.prog ops Q (⟨dst, .alloc 30, ty, pos, after, none⟩ :: rest) a w := op_alloc N hN zeroS.cells zero_p k
theorem ld_p (b : Nat) (h : S3) (hr : RowAt w b h.cells 30) (hx : a.eval x = .pointer (some ⟨b, 0, none⟩))
    (k : wpList Tryd.prog ops Q rest (a.put dst (.agg h.cells)) w) : wpList Tryd.prog ops Q (⟨dst, .load 30 x, ty, pos, after, none⟩ :: rest) a w :=
  op_load b hx h.cells _ hr _ Tryd.underlying30 rfl size_p k
theorem st_p (b : Nat) (old h : S3) (hr : RowAt w b old.cells 30) (hx : a.eval x = .pointer (some ⟨b, 0, none⟩)) (hy : a.eval y = .agg h.cells)
    (k : ∀ W, RowAt W b h.cells 30 → Only b w W → wpList Tryd.prog ops Q rest (a.put dst undef) W) : wpList Tryd.prog ops Q (⟨dst, .store 30 x y, ty, pos, after, none⟩ :: rest) a w :=
  op_store b hx h.cells hy old.cells _ hr size_p rfl (s_one h) k
theorem y_p (b : Nat) (h : S3) (hS : ∀ V, S V → RowAt V b h.cells 30) (hx : a.eval x = .pointer (some ⟨b, 0, none⟩)) :
    YieldsIf Tryd.prog ops S ⟨dst, .load 30 x, ty, pos, after, none⟩ (.agg h.cells) a := y_load b h.cells _ hS _ Tryd.underlying30 rfl size_p hx
theorem s_p (b : Nat) (old h : S3) (hr : RowAt w b old.cells 30) (hx : a.eval x = .pointer (some ⟨b, 0, none⟩)) (hy : a.eval y = .agg h.cells)
    (k : ∀ W, RowAt W b h.cells 30 → Only b w W → K (a.put dst undef) W) :
    Oper.wp Tryd.prog ⟨dst, .store 30 x y, ty, pos, after, none⟩ a w K Q :=
  s_store b hx h.cells hy old.cells _ hr size_p rfl (s_one h) k
theorem size_r : (Tryd.prog.info? 25).map (·.size) = some 3 := by kernel_rfl
theorem zero_r (w : World) : (zeroValue 25).run Tryd.prog w = .ok (.agg zeroS.cells) w :=
  (zero_of_info (P := Tryd.prog) (t := 25) (v := .agg zeroS.cells) (n := 3) (by kernel_rfl)).1 w
theorem bx_r (N : Nat) (h : S3) (hN : w.heap.size = N) (hx : a.eval x = .agg h.cells)
    (k : ∀ W, RowAt W N h.cells 25 → Below N w W → Hid (W.heap.size = N + 1) → wpList Tryd.prog ops Q rest (a.put dst (.pointer (some ⟨N, 0, none⟩))) W) :
    wpList Tryd.prog ops Q (⟨dst, .box 25 x, ty, pos, after, none⟩ :: rest) a w := op_box N hN h.cells hx k
theorem al_r (N : Nat) (hN : w.heap.size = N)
    (k : ∀ W, RowAt W N zeroS.cells 25 → Below N w W → Hid (W.heap.size = N + 1) → wpList Tryd.prog ops Q rest (a.put dst (.pointer (some ⟨N, 0, none⟩))) W) :
    wpList Tryd.prog ops Q (⟨dst, .alloc 25, ty, pos, after, none⟩ :: rest) a w := op_alloc N hN zeroS.cells zero_r k
theorem ld_r (b : Nat) (h : S3) (hr : RowAt w b h.cells 25) (hx : a.eval x = .pointer (some ⟨b, 0, none⟩))
    (k : wpList Tryd.prog ops Q rest (a.put dst (.agg h.cells)) w) : wpList Tryd.prog ops Q (⟨dst, .load 25 x, ty, pos, after, none⟩ :: rest) a w :=
  op_load b hx h.cells _ hr _ Tryd.underlying25 rfl size_r k
theorem st_r (b : Nat) (old h : S3) (hr : RowAt w b old.cells 25) (hx : a.eval x = .pointer (some ⟨b, 0, none⟩)) (hy : a.eval y = .agg h.cells)
    (k : ∀ W, RowAt W b h.cells 25 → Only b w W → wpList Tryd.prog ops Q rest (a.put dst undef) W) : wpList Tryd.prog ops Q (⟨dst, .store 25 x y, ty, pos, after, none⟩ :: rest) a w :=
  op_store b hx h.cells hy old.cells _ hr size_r rfl (s_one h) k
theorem y_r (b : Nat) (h : S3) (hS : ∀ V, S V → RowAt V b h.cells 25) (hx : a.eval x = .pointer (some ⟨b, 0, none⟩)) :
    YieldsIf Tryd.prog ops S ⟨dst, .load 25 x, ty, pos, after, none⟩ (.agg h.cells) a := y_load b h.cells _ hS _ Tryd.underlying25 rfl size_r hx
theorem s_r (b : Nat) (old h : S3) (hr : RowAt w b old.cells 25) (hx : a.eval x = .pointer (some ⟨b, 0, none⟩)) (hy : a.eval y = .agg h.cells)
    (k : ∀ W, RowAt W b h.cells 25 → Only b w W → K (a.put dst undef) W) :
    Oper.wp Tryd.prog ⟨dst, .store 25 x y, ty, pos, after, none⟩ a w K Q :=
  s_store b hx h.cells hy old.cells _ hr size_r rfl (s_one h) k
theorem ld_so (b : Nat) (h : S3) (t' : TypeId) (hr : RowAt w b h.cells t') (hx : a.eval x = .pointer (some ⟨b, 0, none⟩))
    (k : wpList Tryd.prog ops Q rest (a.put dst (.int .u32 (h.so : Nat))) w) : wpList Tryd.prog ops Q (⟨dst, .load 22 x, ty, pos, after, none⟩ :: rest) a w :=
  op_load_cell b 0 hx h.cells _ _ hr rfl _ Tryd.underlying22 rfl k
theorem st_so (b : Nat) (h : S3) (p : Nat) (t' : TypeId) (hr : RowAt w b h.cells t') (hx : a.eval x = .pointer (some ⟨b, 0, none⟩)) (hy : a.eval y = .int .u32 (p : Nat))
    (k : ∀ W, RowAt W b (S3.cells ⟨p, h.ti, h.cm⟩) t' → Only b w W → wpList Tryd.prog ops Q rest (a.put dst undef) W) : wpList Tryd.prog ops Q (⟨dst, .store 22 x y, ty, pos, after, none⟩ :: rest) a w :=
  op_store_cell b 0 hx _ hy h.cells _ _ hr size_word (by show 0 < 3; decide) rfl rfl k
theorem y_so (b : Nat) (h : S3) (t' : TypeId) (hS : ∀ V, S V → RowAt V b h.cells t') (hx : a.eval x = .pointer (some ⟨b, 0, none⟩)) :
    YieldsIf Tryd.prog ops S ⟨dst, .load 22 x, ty, pos, after, none⟩ (.int .u32 (h.so : Nat)) a := y_cell b 0 _ (fun V hV => ((hS V hV).cell 0).trans rfl) _ Tryd.underlying22 rfl hx
theorem ld_ti (b : Nat) (h : S3) (t' : TypeId) (hr : RowAt w b h.cells t') (hx : a.eval x = .pointer (some ⟨b, 1, none⟩))
    (k : wpList Tryd.prog ops Q rest (a.put dst (.int .u64 (h.ti : Nat))) w) : wpList Tryd.prog ops Q (⟨dst, .load 23 x, ty, pos, after, none⟩ :: rest) a w :=
  op_load_cell b 1 hx h.cells _ _ hr rfl _ Tryd.underlying23 rfl k
theorem st_ti (b : Nat) (h : S3) (p : Nat) (t' : TypeId) (hr : RowAt w b h.cells t') (hx : a.eval x = .pointer (some ⟨b, 1, none⟩)) (hy : a.eval y = .int .u64 (p : Nat))
    (k : ∀ W, RowAt W b (S3.cells ⟨h.so, p, h.cm⟩) t' → Only b w W → wpList Tryd.prog ops Q rest (a.put dst undef) W) : wpList Tryd.prog ops Q (⟨dst, .store 23 x y, ty, pos, after, none⟩ :: rest) a w :=
  op_store_cell b 1 hx _ hy h.cells _ _ hr size_long (by show 1 < 3; decide) rfl rfl k
theorem y_ti (b : Nat) (h : S3) (t' : TypeId) (hS : ∀ V, S V → RowAt V b h.cells t') (hx : a.eval x = .pointer (some ⟨b, 1, none⟩)) :
    YieldsIf Tryd.prog ops S ⟨dst, .load 23 x, ty, pos, after, none⟩ (.int .u64 (h.ti : Nat)) a := y_cell b 1 _ (fun V hV => ((hS V hV).cell 1).trans rfl) _ Tryd.underlying23 rfl hx
theorem ld_cm (b : Nat) (h : S3) (t' : TypeId) (hr : RowAt w b h.cells t') (hx : a.eval x = .pointer (some ⟨b, 2, none⟩))
    (k : wpList Tryd.prog ops Q rest (a.put dst (.int .u64 (h.cm : Nat))) w) : wpList Tryd.prog ops Q (⟨dst, .load 23 x, ty, pos, after, none⟩ :: rest) a w :=
  op_load_cell b 2 hx h.cells _ _ hr rfl _ Tryd.underlying23 rfl k
theorem st_cm (b : Nat) (h : S3) (p : Nat) (t' : TypeId) (hr : RowAt w b h.cells t') (hx : a.eval x = .pointer (some ⟨b, 2, none⟩)) (hy : a.eval y = .int .u64 (p : Nat))
    (k : ∀ W, RowAt W b (S3.cells ⟨h.so, h.ti, p⟩) t' → Only b w W → wpList Tryd.prog ops Q rest (a.put dst undef) W) : wpList Tryd.prog ops Q (⟨dst, .store 23 x y, ty, pos, after, none⟩ :: rest) a w :=
  op_store_cell b 2 hx _ hy h.cells _ _ hr size_long (by show 2 < 3; decide) rfl rfl k
theorem y_cm (b : Nat) (h : S3) (t' : TypeId) (hS : ∀ V, S V → RowAt V b h.cells t') (hx : a.eval x = .pointer (some ⟨b, 2, none⟩)) :
    YieldsIf Tryd.prog ops S ⟨dst, .load 23 x, ty, pos, after, none⟩ (.int .u64 (h.cm : Nat)) a := y_cell b 2 _ (fun V hV => ((hS V hV).cell 2).trans rfl) _ Tryd.underlying23 rfl hx
def errP (n : Nat) : Value := if n = 0 then .nilIface else .iface 48 (.int .i64 (n : Int))
theorem results_cell_one {P : Program} {fn : Func} {p u : Tmp} {ty : TypeId} (h : fn.results = #[.cell p ty, .tmp u]) (tmps : Array Value) (w : World) (g : Nat) (t : TypeId) (cs : Array Value) (d : TypeDesc)
    (hp : tmps.getD p undef = .pointer (some ⟨g, 0, none⟩)) (hg : RowAt w g cs t) (hu : P.underlying ty = some d) (hd : d.isRow = true) (hi : (P.info? ty).map (·.size) = some cs.size) :
    (results fn tmps).run P w = .ok (.tuple #[.agg cs, tmps.getD u undef]) w := by
  have e : tmps[p]?.getD undef = .pointer (some ⟨g, 0, none⟩) := by simpa using hp
  have l := run_loadVar_row w g t ty cs (0, 0) d hg hu (by cases d <;> first | rfl | cases hd) hi
  simp [results, h, e, asAddr, l]
end Go.Proofs.YtjibjginafjpcaaDoor
