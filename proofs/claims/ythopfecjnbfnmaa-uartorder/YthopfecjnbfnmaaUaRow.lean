/-
  Ports and their fifos in blocks of their own: what is read of them, and what stores make of them.
-/
import Derived.Test.YthopfecjnbfnmaaOps
import Derived.Test.YthopfecjnbfnmaaUaMath
import Derived.Deep.WholeRow
import Derived.Laws.BitsAllLaws
import Derived.RegionTactic
import Derived.Laws.ResultCell
import Derived.Deep.RegionHeld3
namespace Go.Proofs.Ythopfecjnbfnmaa
open Go.RowKit
set_option linter.unusedVariables false

def F.arr (f : F) : Array Value := #[.int .u8 (f.b 0 : Nat), .int .u8 (f.b 1 : Nat), .int .u8 (f.b 2 : Nat), .int .u8 (f.b 3 : Nat), .int .u8 (f.b 4 : Nat), .int .u8 (f.b 5 : Nat), .int .u8 (f.b 6 : Nat), .int .u8 (f.b 7 : Nat), .int .u8 (f.b 8 : Nat), .int .u8 (f.b 9 : Nat), .int .u8 (f.b 10 : Nat), .int .u8 (f.b 11 : Nat), .int .u8 (f.b 12 : Nat), .int .u8 (f.b 13 : Nat), .int .u8 (f.b 14 : Nat), .int .u8 (f.b 15 : Nat)]
def F.cells (f : F) : Array Value := #[.int .u8 (f.b 0 : Nat), .int .u8 (f.b 1 : Nat), .int .u8 (f.b 2 : Nat), .int .u8 (f.b 3 : Nat), .int .u8 (f.b 4 : Nat), .int .u8 (f.b 5 : Nat), .int .u8 (f.b 6 : Nat), .int .u8 (f.b 7 : Nat), .int .u8 (f.b 8 : Nat), .int .u8 (f.b 9 : Nat), .int .u8 (f.b 10 : Nat), .int .u8 (f.b 11 : Nat), .int .u8 (f.b 12 : Nat), .int .u8 (f.b 13 : Nat), .int .u8 (f.b 14 : Nat), .int .u8 (f.b 15 : Nat), .int .i64 f.n]
def U.cells (s : U) : Array Value := #[.int .u8 (s.rx.b 0 : Nat), .int .u8 (s.rx.b 1 : Nat), .int .u8 (s.rx.b 2 : Nat), .int .u8 (s.rx.b 3 : Nat), .int .u8 (s.rx.b 4 : Nat), .int .u8 (s.rx.b 5 : Nat), .int .u8 (s.rx.b 6 : Nat), .int .u8 (s.rx.b 7 : Nat), .int .u8 (s.rx.b 8 : Nat), .int .u8 (s.rx.b 9 : Nat), .int .u8 (s.rx.b 10 : Nat), .int .u8 (s.rx.b 11 : Nat), .int .u8 (s.rx.b 12 : Nat), .int .u8 (s.rx.b 13 : Nat), .int .u8 (s.rx.b 14 : Nat), .int .u8 (s.rx.b 15 : Nat), .int .i64 s.rx.n, .int .u8 (s.tx.b 0 : Nat), .int .u8 (s.tx.b 1 : Nat), .int .u8 (s.tx.b 2 : Nat), .int .u8 (s.tx.b 3 : Nat), .int .u8 (s.tx.b 4 : Nat), .int .u8 (s.tx.b 5 : Nat), .int .u8 (s.tx.b 6 : Nat), .int .u8 (s.tx.b 7 : Nat), .int .u8 (s.tx.b 8 : Nat), .int .u8 (s.tx.b 9 : Nat), .int .u8 (s.tx.b 10 : Nat), .int .u8 (s.tx.b 11 : Nat), .int .u8 (s.tx.b 12 : Nat), .int .u8 (s.tx.b 13 : Nat), .int .u8 (s.tx.b 14 : Nat), .int .u8 (s.tx.b 15 : Nat), .int .i64 s.tx.n, .int .u8 (s.ie : Nat), .int .u8 (s.lc : Nat), .int .u8 (s.mc : Nat), .int .u8 (s.sc : Nat), .int .u8 (s.dl : Nat), .int .u8 (s.dm : Nat), .bool s.ov, .int .i64 s.wt]
theorem F.at0 (f : F) : f.cells[0]? = some (.int .u8 (f.b 0 : Nat)) := rfl
theorem F.at1 (f : F) : f.cells[1]? = some (.int .u8 (f.b 1 : Nat)) := rfl
theorem F.at2 (f : F) : f.cells[2]? = some (.int .u8 (f.b 2 : Nat)) := rfl
theorem F.at3 (f : F) : f.cells[3]? = some (.int .u8 (f.b 3 : Nat)) := rfl
theorem F.at4 (f : F) : f.cells[4]? = some (.int .u8 (f.b 4 : Nat)) := rfl
theorem F.at5 (f : F) : f.cells[5]? = some (.int .u8 (f.b 5 : Nat)) := rfl
theorem F.at6 (f : F) : f.cells[6]? = some (.int .u8 (f.b 6 : Nat)) := rfl
theorem F.at7 (f : F) : f.cells[7]? = some (.int .u8 (f.b 7 : Nat)) := rfl
theorem F.at8 (f : F) : f.cells[8]? = some (.int .u8 (f.b 8 : Nat)) := rfl
theorem F.at9 (f : F) : f.cells[9]? = some (.int .u8 (f.b 9 : Nat)) := rfl
theorem F.at10 (f : F) : f.cells[10]? = some (.int .u8 (f.b 10 : Nat)) := rfl
theorem F.at11 (f : F) : f.cells[11]? = some (.int .u8 (f.b 11 : Nat)) := rfl
theorem F.at12 (f : F) : f.cells[12]? = some (.int .u8 (f.b 12 : Nat)) := rfl
theorem F.at13 (f : F) : f.cells[13]? = some (.int .u8 (f.b 13 : Nat)) := rfl
theorem F.at14 (f : F) : f.cells[14]? = some (.int .u8 (f.b 14 : Nat)) := rfl
theorem F.at15 (f : F) : f.cells[15]? = some (.int .u8 (f.b 15 : Nat)) := rfl
theorem F.at16 (f : F) : f.cells[16]? = some (.int .i64 f.n) := rfl
theorem U.at0 (s : U) : s.cells[0]? = some (.int .u8 (s.rx.b 0 : Nat)) := rfl
theorem U.at1 (s : U) : s.cells[1]? = some (.int .u8 (s.rx.b 1 : Nat)) := rfl
theorem U.at2 (s : U) : s.cells[2]? = some (.int .u8 (s.rx.b 2 : Nat)) := rfl
theorem U.at3 (s : U) : s.cells[3]? = some (.int .u8 (s.rx.b 3 : Nat)) := rfl
theorem U.at4 (s : U) : s.cells[4]? = some (.int .u8 (s.rx.b 4 : Nat)) := rfl
theorem U.at5 (s : U) : s.cells[5]? = some (.int .u8 (s.rx.b 5 : Nat)) := rfl
theorem U.at6 (s : U) : s.cells[6]? = some (.int .u8 (s.rx.b 6 : Nat)) := rfl
theorem U.at7 (s : U) : s.cells[7]? = some (.int .u8 (s.rx.b 7 : Nat)) := rfl
theorem U.at8 (s : U) : s.cells[8]? = some (.int .u8 (s.rx.b 8 : Nat)) := rfl
theorem U.at9 (s : U) : s.cells[9]? = some (.int .u8 (s.rx.b 9 : Nat)) := rfl
theorem U.at10 (s : U) : s.cells[10]? = some (.int .u8 (s.rx.b 10 : Nat)) := rfl
theorem U.at11 (s : U) : s.cells[11]? = some (.int .u8 (s.rx.b 11 : Nat)) := rfl
theorem U.at12 (s : U) : s.cells[12]? = some (.int .u8 (s.rx.b 12 : Nat)) := rfl
theorem U.at13 (s : U) : s.cells[13]? = some (.int .u8 (s.rx.b 13 : Nat)) := rfl
theorem U.at14 (s : U) : s.cells[14]? = some (.int .u8 (s.rx.b 14 : Nat)) := rfl
theorem U.at15 (s : U) : s.cells[15]? = some (.int .u8 (s.rx.b 15 : Nat)) := rfl
theorem U.at16 (s : U) : s.cells[16]? = some (.int .i64 s.rx.n) := rfl
theorem U.at17 (s : U) : s.cells[17]? = some (.int .u8 (s.tx.b 0 : Nat)) := rfl
theorem U.at18 (s : U) : s.cells[18]? = some (.int .u8 (s.tx.b 1 : Nat)) := rfl
theorem U.at19 (s : U) : s.cells[19]? = some (.int .u8 (s.tx.b 2 : Nat)) := rfl
theorem U.at20 (s : U) : s.cells[20]? = some (.int .u8 (s.tx.b 3 : Nat)) := rfl
theorem U.at21 (s : U) : s.cells[21]? = some (.int .u8 (s.tx.b 4 : Nat)) := rfl
theorem U.at22 (s : U) : s.cells[22]? = some (.int .u8 (s.tx.b 5 : Nat)) := rfl
theorem U.at23 (s : U) : s.cells[23]? = some (.int .u8 (s.tx.b 6 : Nat)) := rfl
theorem U.at24 (s : U) : s.cells[24]? = some (.int .u8 (s.tx.b 7 : Nat)) := rfl
theorem U.at25 (s : U) : s.cells[25]? = some (.int .u8 (s.tx.b 8 : Nat)) := rfl
theorem U.at26 (s : U) : s.cells[26]? = some (.int .u8 (s.tx.b 9 : Nat)) := rfl
theorem U.at27 (s : U) : s.cells[27]? = some (.int .u8 (s.tx.b 10 : Nat)) := rfl
theorem U.at28 (s : U) : s.cells[28]? = some (.int .u8 (s.tx.b 11 : Nat)) := rfl
theorem U.at29 (s : U) : s.cells[29]? = some (.int .u8 (s.tx.b 12 : Nat)) := rfl
theorem U.at30 (s : U) : s.cells[30]? = some (.int .u8 (s.tx.b 13 : Nat)) := rfl
theorem U.at31 (s : U) : s.cells[31]? = some (.int .u8 (s.tx.b 14 : Nat)) := rfl
theorem U.at32 (s : U) : s.cells[32]? = some (.int .u8 (s.tx.b 15 : Nat)) := rfl
theorem U.at33 (s : U) : s.cells[33]? = some (.int .i64 s.tx.n) := rfl
theorem U.at34 (s : U) : s.cells[34]? = some (.int .u8 (s.ie : Nat)) := rfl
theorem U.at35 (s : U) : s.cells[35]? = some (.int .u8 (s.lc : Nat)) := rfl
theorem U.at36 (s : U) : s.cells[36]? = some (.int .u8 (s.mc : Nat)) := rfl
theorem U.at37 (s : U) : s.cells[37]? = some (.int .u8 (s.sc : Nat)) := rfl
theorem U.at38 (s : U) : s.cells[38]? = some (.int .u8 (s.dl : Nat)) := rfl
theorem U.at39 (s : U) : s.cells[39]? = some (.int .u8 (s.dm : Nat)) := rfl
theorem U.at40 (s : U) : s.cells[40]? = some (.bool s.ov) := rfl
theorem U.at41 (s : U) : s.cells[41]? = some (.int .i64 s.wt) := rfl
theorem size_byte : (Try.prog.info? 5).map (·.size) = some 1 := by kernel_rfl
theorem size_int : (Try.prog.info? 3).map (·.size) = some 1 := by kernel_rfl
theorem size_bool : (Try.prog.info? 4).map (·.size) = some 1 := by kernel_rfl
theorem size_arr : (Try.prog.info? 22).map (·.size) = some 16 := by kernel_rfl
theorem F.size (f : F) : f.cells.size = 17 := rfl
theorem U.size (s : U) : s.cells.size = 42 := rfl
theorem f_one (f : F) : f.cells.all (·.oneCell') = true := by simp [F.cells, Value.oneCell']
theorem a_one (f : F) : f.arr.all (·.oneCell') = true := by simp [F.arr, Value.oneCell']
theorem u_one (s : U) : s.cells.all (·.oneCell') = true := by simp [U.cells, Value.oneCell']
theorem ret_agg {cs ds : Array Value} (h : cs = ds) : Ending.returned (.agg cs) = .returned (.agg ds) := by rw [h]
theorem F.cell_b (f : F) (r : Nat) (hr : r < 16) : f.cells[r]? = some (.int .u8 (f.b r : Nat)) := by
  rcases r with _ | _ | _ | _ | _ | _ | _ | _ | _ | _ | _ | _ | _ | _ | _ | _ | r
  all_goals first | rfl | omega
theorem F.set_b (f : F) (r v : Nat) (hr : r < 16) : f.cells.setIfInBounds r (.int .u8 (v : Nat)) = F.cells ⟨setB f.b r v, f.n⟩ := by
  rcases r with _ | _ | _ | _ | _ | _ | _ | _ | _ | _ | _ | _ | _ | _ | _ | _ | r
  all_goals first | rfl | omega
theorem F.set_n (f : F) (n : Int) : f.cells.setIfInBounds 16 (.int .i64 n) = F.cells ⟨f.b, n⟩ := rfl
/-- Two fifos with the same bytes are one. -/
theorem F.same {f g : F} (h : ∀ i, i < 16 → f.b i = g.b i) (hn : f.n = g.n) : f.cells = g.cells := by
  unfold F.cells
  rw [h 0 (by decide), h 1 (by decide), h 2 (by decide), h 3 (by decide), h 4 (by decide), h 5 (by decide), h 6 (by decide), h 7 (by decide), h 8 (by decide), h 9 (by decide), h 10 (by decide), h 11 (by decide), h 12 (by decide), h 13 (by decide), h 14 (by decide), h 15 (by decide), hn]
def cells2 (rx tx : Array Value) (s : U) : Array Value := (rx ++ tx) ++ #[.int .u8 (s.ie : Nat), .int .u8 (s.lc : Nat), .int .u8 (s.mc : Nat), .int .u8 (s.sc : Nat), .int .u8 (s.dl : Nat), .int .u8 (s.dm : Nat), .bool s.ov, .int .i64 s.wt]
theorem split_rx (s : U) (f : F) : (withRx s f).cells = cells2 f.cells s.tx.cells s := by kernel_rfl
theorem split_tx (s : U) (f : F) : (withTx s f).cells = cells2 s.rx.cells f.cells s := by kernel_rfl
theorem cells_rx (s : U) {f g : F} (h : f.cells = g.cells) : (withRx s f).cells = (withRx s g).cells := by
  rw [split_rx, split_rx, h]
theorem cells_tx (s : U) {f g : F} (h : f.cells = g.cells) : (withTx s f).cells = (withTx s g).cells := by
  rw [split_tx, split_tx, h]
theorem putAll_rx (s : U) (f : F) : putAll s.cells 0 f.cells.toList = (withRx s f).cells := by kernel_rfl
theorem putAll_tx (s : U) (f : F) : putAll s.cells 17 f.cells.toList = (withTx s f).cells := by kernel_rfl
theorem ext_rx (s : U) : (s.cells.extract 0 (0 + s.rx.cells.size)).toList = s.rx.cells.toList := by kernel_rfl
theorem ext_tx (s : U) : (s.cells.extract 17 (17 + s.tx.cells.size)).toList = s.tx.cells.toList := by kernel_rfl
theorem ext_arr (f : F) : (f.cells.extract 0 (0 + f.arr.size)).toList = f.arr.toList := by kernel_rfl
variable {ops : Array Oper} {rest : List Oper} {dst : Option Tmp} {ty : TypeId} {pos : String} {after : Array Edge} {a : Act} {w : World} {Q : Exit → Act → World → Prop} {x y : Operand} {b : Nat} {S : World → Prop} {K : Act → World → Prop} {gd : Option (Nat × Bool)}
theorem size_fp : (Try.prog.info? 27).map (·.size) = some 17 := by kernel_rfl
theorem zero_fp (w : World) : (zeroValue 27).run Try.prog w = .ok (.agg zeroF.cells) w :=
  (zero_of_info (P := Try.prog) (t := 27) (v := .agg zeroF.cells) (n := 17) (by kernel_rfl)).1 w
theorem bx_fp (N : Nat) (h : F) (hN : w.heap.size = N) (hx : a.eval x = .agg h.cells)
    (k : ∀ W, RowAt W N h.cells 27 → Below N w W → Hid (W.heap.size = N + 1) → wpList Try.prog ops Q rest (a.put dst (.pointer (some ⟨N, 0, none⟩))) W) :
    wpList Try.prog ops Q (⟨dst, .box 27 x, ty, pos, after, none⟩ :: rest) a w := op_box N hN h.cells hx k
theorem al_fp (N : Nat) (hN : w.heap.size = N)
    (k : ∀ W, RowAt W N zeroF.cells 27 → Below N w W → Hid (W.heap.size = N + 1) → wpList Try.prog ops Q rest (a.put dst (.pointer (some ⟨N, 0, none⟩))) W) :
    wpList Try.prog ops Q (⟨dst, .alloc 27, ty, pos, after, none⟩ :: rest) a w := op_alloc N hN zeroF.cells zero_fp k
theorem ld_fp (b : Nat) (h : F) (hr : RowAt w b h.cells 27) (hx : a.eval x = .pointer (some ⟨b, 0, none⟩)) (hw : Region.wanted ⟨dst, .load 27 x, ty, pos, after, gd⟩ (yielded ops a.tmps) = true)
    (k : wpList Try.prog ops Q rest (a.put dst (.agg h.cells)) w) : wpList Try.prog ops Q (⟨dst, .load 27 x, ty, pos, after, gd⟩ :: rest) a w :=
  BigFrame.wpList_want hw fun K hK => wp_load_row 27 x rfl b hx _ h.cells (0, 0) _ hr Try.underlying27 rfl size_fp (hK _ _ k)
theorem st_fp (b : Nat) (old h : F) (hr : RowAt w b old.cells 27) (hx : a.eval x = .pointer (some ⟨b, 0, none⟩)) (hy : a.eval y = .agg h.cells)
    (k : ∀ W, RowAt W b h.cells 27 → Only b w W → wpList Try.prog ops Q rest (a.put dst undef) W) : wpList Try.prog ops Q (⟨dst, .store 27 x y, ty, pos, after, none⟩ :: rest) a w :=
  op_store b hx h.cells hy old.cells _ hr size_fp rfl (f_one h) k
theorem y_fp (b : Nat) (h : F) (hS : ∀ V, S V → RowAt V b h.cells 27) (hx : a.eval x = .pointer (some ⟨b, 0, none⟩)) (hw : Region.wanted ⟨dst, .load 27 x, ty, pos, after, gd⟩ (yielded ops a.tmps) = true) :
    YieldsIf Try.prog ops S ⟨dst, .load 27 x, ty, pos, after, gd⟩ (.agg h.cells) a := by
  rcases y_load (ops := ops) (P := Try.prog) (t := 27) (dst := dst) (ty := ty) (after := after) (a := a) (x := x) (pos := pos) (S := S) b h.cells _ hS _ Try.underlying27 rfl size_fp hx with ⟨_, h2⟩ | ⟨h1, _⟩
  · exact .inl ⟨hw, fun V hV => h2 V hV⟩
  · simp [Region.wanted] at h1
theorem s_fp (b : Nat) (old h : F) (hr : RowAt w b old.cells 27) (hx : a.eval x = .pointer (some ⟨b, 0, none⟩)) (hy : a.eval y = .agg h.cells)
    (k : ∀ W, RowAt W b h.cells 27 → Only b w W → K (a.put dst undef) W) :
    Oper.wp Try.prog ⟨dst, .store 27 x y, ty, pos, after, none⟩ a w K Q :=
  s_store b hx h.cells hy old.cells _ hr size_fp rfl (f_one h) k
theorem size_fr : (Try.prog.info? 24).map (·.size) = some 17 := by kernel_rfl
theorem zero_fr (w : World) : (zeroValue 24).run Try.prog w = .ok (.agg zeroF.cells) w :=
  (zero_of_info (P := Try.prog) (t := 24) (v := .agg zeroF.cells) (n := 17) (by kernel_rfl)).1 w
theorem bx_fr (N : Nat) (h : F) (hN : w.heap.size = N) (hx : a.eval x = .agg h.cells)
    (k : ∀ W, RowAt W N h.cells 24 → Below N w W → Hid (W.heap.size = N + 1) → wpList Try.prog ops Q rest (a.put dst (.pointer (some ⟨N, 0, none⟩))) W) :
    wpList Try.prog ops Q (⟨dst, .box 24 x, ty, pos, after, none⟩ :: rest) a w := op_box N hN h.cells hx k
theorem al_fr (N : Nat) (hN : w.heap.size = N)
    (k : ∀ W, RowAt W N zeroF.cells 24 → Below N w W → Hid (W.heap.size = N + 1) → wpList Try.prog ops Q rest (a.put dst (.pointer (some ⟨N, 0, none⟩))) W) :
    wpList Try.prog ops Q (⟨dst, .alloc 24, ty, pos, after, none⟩ :: rest) a w := op_alloc N hN zeroF.cells zero_fr k
theorem ld_fr (b : Nat) (h : F) (hr : RowAt w b h.cells 24) (hx : a.eval x = .pointer (some ⟨b, 0, none⟩)) (hw : Region.wanted ⟨dst, .load 24 x, ty, pos, after, gd⟩ (yielded ops a.tmps) = true)
    (k : wpList Try.prog ops Q rest (a.put dst (.agg h.cells)) w) : wpList Try.prog ops Q (⟨dst, .load 24 x, ty, pos, after, gd⟩ :: rest) a w :=
  BigFrame.wpList_want hw fun K hK => wp_load_row 24 x rfl b hx _ h.cells (0, 0) _ hr Try.underlying24 rfl size_fr (hK _ _ k)
theorem st_fr (b : Nat) (old h : F) (hr : RowAt w b old.cells 24) (hx : a.eval x = .pointer (some ⟨b, 0, none⟩)) (hy : a.eval y = .agg h.cells)
    (k : ∀ W, RowAt W b h.cells 24 → Only b w W → wpList Try.prog ops Q rest (a.put dst undef) W) : wpList Try.prog ops Q (⟨dst, .store 24 x y, ty, pos, after, none⟩ :: rest) a w :=
  op_store b hx h.cells hy old.cells _ hr size_fr rfl (f_one h) k
theorem y_fr (b : Nat) (h : F) (hS : ∀ V, S V → RowAt V b h.cells 24) (hx : a.eval x = .pointer (some ⟨b, 0, none⟩)) (hw : Region.wanted ⟨dst, .load 24 x, ty, pos, after, gd⟩ (yielded ops a.tmps) = true) :
    YieldsIf Try.prog ops S ⟨dst, .load 24 x, ty, pos, after, gd⟩ (.agg h.cells) a := by
  rcases y_load (ops := ops) (P := Try.prog) (t := 24) (dst := dst) (ty := ty) (after := after) (a := a) (x := x) (pos := pos) (S := S) b h.cells _ hS _ Try.underlying24 rfl size_fr hx with ⟨_, h2⟩ | ⟨h1, _⟩
  · exact .inl ⟨hw, fun V hV => h2 V hV⟩
  · simp [Region.wanted] at h1
theorem s_fr (b : Nat) (old h : F) (hr : RowAt w b old.cells 24) (hx : a.eval x = .pointer (some ⟨b, 0, none⟩)) (hy : a.eval y = .agg h.cells)
    (k : ∀ W, RowAt W b h.cells 24 → Only b w W → K (a.put dst undef) W) :
    Oper.wp Try.prog ⟨dst, .store 24 x y, ty, pos, after, none⟩ a w K Q :=
  s_store b hx h.cells hy old.cells _ hr size_fr rfl (f_one h) k
theorem size_up : (Try.prog.info? 29).map (·.size) = some 42 := by kernel_rfl
theorem zero_up (w : World) : (zeroValue 29).run Try.prog w = .ok (.agg zeroU.cells) w :=
  (zero_of_info (P := Try.prog) (t := 29) (v := .agg zeroU.cells) (n := 42) (by kernel_rfl)).1 w
theorem bx_up (N : Nat) (h : U) (hN : w.heap.size = N) (hx : a.eval x = .agg h.cells)
    (k : ∀ W, RowAt W N h.cells 29 → Below N w W → Hid (W.heap.size = N + 1) → wpList Try.prog ops Q rest (a.put dst (.pointer (some ⟨N, 0, none⟩))) W) :
    wpList Try.prog ops Q (⟨dst, .box 29 x, ty, pos, after, none⟩ :: rest) a w := op_box N hN h.cells hx k
theorem al_up (N : Nat) (hN : w.heap.size = N)
    (k : ∀ W, RowAt W N zeroU.cells 29 → Below N w W → Hid (W.heap.size = N + 1) → wpList Try.prog ops Q rest (a.put dst (.pointer (some ⟨N, 0, none⟩))) W) :
    wpList Try.prog ops Q (⟨dst, .alloc 29, ty, pos, after, none⟩ :: rest) a w := op_alloc N hN zeroU.cells zero_up k
theorem ld_up (b : Nat) (h : U) (hr : RowAt w b h.cells 29) (hx : a.eval x = .pointer (some ⟨b, 0, none⟩)) (hw : Region.wanted ⟨dst, .load 29 x, ty, pos, after, gd⟩ (yielded ops a.tmps) = true)
    (k : wpList Try.prog ops Q rest (a.put dst (.agg h.cells)) w) : wpList Try.prog ops Q (⟨dst, .load 29 x, ty, pos, after, gd⟩ :: rest) a w :=
  BigFrame.wpList_want hw fun K hK => wp_load_row 29 x rfl b hx _ h.cells (0, 0) _ hr Try.underlying29 rfl size_up (hK _ _ k)
theorem st_up (b : Nat) (old h : U) (hr : RowAt w b old.cells 29) (hx : a.eval x = .pointer (some ⟨b, 0, none⟩)) (hy : a.eval y = .agg h.cells)
    (k : ∀ W, RowAt W b h.cells 29 → Only b w W → wpList Try.prog ops Q rest (a.put dst undef) W) : wpList Try.prog ops Q (⟨dst, .store 29 x y, ty, pos, after, none⟩ :: rest) a w :=
  op_store b hx h.cells hy old.cells _ hr size_up rfl (u_one h) k
theorem y_up (b : Nat) (h : U) (hS : ∀ V, S V → RowAt V b h.cells 29) (hx : a.eval x = .pointer (some ⟨b, 0, none⟩)) (hw : Region.wanted ⟨dst, .load 29 x, ty, pos, after, gd⟩ (yielded ops a.tmps) = true) :
    YieldsIf Try.prog ops S ⟨dst, .load 29 x, ty, pos, after, gd⟩ (.agg h.cells) a := by
  rcases y_load (ops := ops) (P := Try.prog) (t := 29) (dst := dst) (ty := ty) (after := after) (a := a) (x := x) (pos := pos) (S := S) b h.cells _ hS _ Try.underlying29 rfl size_up hx with ⟨_, h2⟩ | ⟨h1, _⟩
  · exact .inl ⟨hw, fun V hV => h2 V hV⟩
  · simp [Region.wanted] at h1
theorem s_up (b : Nat) (old h : U) (hr : RowAt w b old.cells 29) (hx : a.eval x = .pointer (some ⟨b, 0, none⟩)) (hy : a.eval y = .agg h.cells)
    (k : ∀ W, RowAt W b h.cells 29 → Only b w W → K (a.put dst undef) W) :
    Oper.wp Try.prog ⟨dst, .store 29 x y, ty, pos, after, none⟩ a w K Q :=
  s_store b hx h.cells hy old.cells _ hr size_up rfl (u_one h) k
theorem size_ur : (Try.prog.info? 26).map (·.size) = some 42 := by kernel_rfl
theorem zero_ur (w : World) : (zeroValue 26).run Try.prog w = .ok (.agg zeroU.cells) w :=
  (zero_of_info (P := Try.prog) (t := 26) (v := .agg zeroU.cells) (n := 42) (by kernel_rfl)).1 w
theorem bx_ur (N : Nat) (h : U) (hN : w.heap.size = N) (hx : a.eval x = .agg h.cells)
    (k : ∀ W, RowAt W N h.cells 26 → Below N w W → Hid (W.heap.size = N + 1) → wpList Try.prog ops Q rest (a.put dst (.pointer (some ⟨N, 0, none⟩))) W) :
    wpList Try.prog ops Q (⟨dst, .box 26 x, ty, pos, after, none⟩ :: rest) a w := op_box N hN h.cells hx k
theorem al_ur (N : Nat) (hN : w.heap.size = N)
    (k : ∀ W, RowAt W N zeroU.cells 26 → Below N w W → Hid (W.heap.size = N + 1) → wpList Try.prog ops Q rest (a.put dst (.pointer (some ⟨N, 0, none⟩))) W) :
    wpList Try.prog ops Q (⟨dst, .alloc 26, ty, pos, after, none⟩ :: rest) a w := op_alloc N hN zeroU.cells zero_ur k
theorem ld_ur (b : Nat) (h : U) (hr : RowAt w b h.cells 26) (hx : a.eval x = .pointer (some ⟨b, 0, none⟩)) (hw : Region.wanted ⟨dst, .load 26 x, ty, pos, after, gd⟩ (yielded ops a.tmps) = true)
    (k : wpList Try.prog ops Q rest (a.put dst (.agg h.cells)) w) : wpList Try.prog ops Q (⟨dst, .load 26 x, ty, pos, after, gd⟩ :: rest) a w :=
  BigFrame.wpList_want hw fun K hK => wp_load_row 26 x rfl b hx _ h.cells (0, 0) _ hr Try.underlying26 rfl size_ur (hK _ _ k)
theorem st_ur (b : Nat) (old h : U) (hr : RowAt w b old.cells 26) (hx : a.eval x = .pointer (some ⟨b, 0, none⟩)) (hy : a.eval y = .agg h.cells)
    (k : ∀ W, RowAt W b h.cells 26 → Only b w W → wpList Try.prog ops Q rest (a.put dst undef) W) : wpList Try.prog ops Q (⟨dst, .store 26 x y, ty, pos, after, none⟩ :: rest) a w :=
  op_store b hx h.cells hy old.cells _ hr size_ur rfl (u_one h) k
theorem y_ur (b : Nat) (h : U) (hS : ∀ V, S V → RowAt V b h.cells 26) (hx : a.eval x = .pointer (some ⟨b, 0, none⟩)) (hw : Region.wanted ⟨dst, .load 26 x, ty, pos, after, gd⟩ (yielded ops a.tmps) = true) :
    YieldsIf Try.prog ops S ⟨dst, .load 26 x, ty, pos, after, gd⟩ (.agg h.cells) a := by
  rcases y_load (ops := ops) (P := Try.prog) (t := 26) (dst := dst) (ty := ty) (after := after) (a := a) (x := x) (pos := pos) (S := S) b h.cells _ hS _ Try.underlying26 rfl size_ur hx with ⟨_, h2⟩ | ⟨h1, _⟩
  · exact .inl ⟨hw, fun V hV => h2 V hV⟩
  · simp [Region.wanted] at h1
theorem s_ur (b : Nat) (old h : U) (hr : RowAt w b old.cells 26) (hx : a.eval x = .pointer (some ⟨b, 0, none⟩)) (hy : a.eval y = .agg h.cells)
    (k : ∀ W, RowAt W b h.cells 26 → Only b w W → K (a.put dst undef) W) :
    Oper.wp Try.prog ⟨dst, .store 26 x y, ty, pos, after, none⟩ a w K Q :=
  s_store b hx h.cells hy old.cells _ hr size_ur rfl (u_one h) k
theorem ld_rxp (b : Nat) (h : U) (t' : TypeId) (hr : RowAt w b h.cells t') (hx : a.eval x = .pointer (some ⟨b, 0, none⟩)) (hw : Region.wanted ⟨dst, .load 27 x, ty, pos, after, gd⟩ (yielded ops a.tmps) = true)
    (k : wpList Try.prog ops Q rest (a.put dst (.agg h.rx.cells)) w) : wpList Try.prog ops Q (⟨dst, .load 27 x, ty, pos, after, gd⟩ :: rest) a w :=
  BigFrame.wpList_want hw fun K hK => wp_load_mid 27 x rfl b 0 hx h.rx.cells.toList _ (ext_rx h ▸ World.rangeAt_of_block hr 0 h.rx.cells.size) Try.underlying27 rfl size_fp (hK _ _ k)
theorem st_rxp (b : Nat) (h : U) (f : F) (t' : TypeId) (hr : RowAt w b h.cells t') (hx : a.eval x = .pointer (some ⟨b, 0, none⟩)) (hy : a.eval y = .agg f.cells)
    (k : ∀ W, RowAt W b (withRx h f).cells t' → Only b w W → wpList Try.prog ops Q rest (a.put dst undef) W) : wpList Try.prog ops Q (⟨dst, .store 27 x y, ty, pos, after, none⟩ :: rest) a w :=
  op_store_mid b 0 hx f.cells hy h.cells _ _ hr size_fp (by show 0 + 17 ≤ 42; decide) (f_one f) (putAll_rx h f) k
theorem ld_txp (b : Nat) (h : U) (t' : TypeId) (hr : RowAt w b h.cells t') (hx : a.eval x = .pointer (some ⟨b, 17, none⟩)) (hw : Region.wanted ⟨dst, .load 27 x, ty, pos, after, gd⟩ (yielded ops a.tmps) = true)
    (k : wpList Try.prog ops Q rest (a.put dst (.agg h.tx.cells)) w) : wpList Try.prog ops Q (⟨dst, .load 27 x, ty, pos, after, gd⟩ :: rest) a w :=
  BigFrame.wpList_want hw fun K hK => wp_load_mid 27 x rfl b 17 hx h.tx.cells.toList _ (ext_tx h ▸ World.rangeAt_of_block hr 17 h.tx.cells.size) Try.underlying27 rfl size_fp (hK _ _ k)
theorem st_txp (b : Nat) (h : U) (f : F) (t' : TypeId) (hr : RowAt w b h.cells t') (hx : a.eval x = .pointer (some ⟨b, 17, none⟩)) (hy : a.eval y = .agg f.cells)
    (k : ∀ W, RowAt W b (withTx h f).cells t' → Only b w W → wpList Try.prog ops Q rest (a.put dst undef) W) : wpList Try.prog ops Q (⟨dst, .store 27 x y, ty, pos, after, none⟩ :: rest) a w :=
  op_store_mid b 17 hx f.cells hy h.cells _ _ hr size_fp (by show 17 + 17 ≤ 42; decide) (f_one f) (putAll_tx h f) k
theorem ld_rxr (b : Nat) (h : U) (t' : TypeId) (hr : RowAt w b h.cells t') (hx : a.eval x = .pointer (some ⟨b, 0, none⟩)) (hw : Region.wanted ⟨dst, .load 24 x, ty, pos, after, gd⟩ (yielded ops a.tmps) = true)
    (k : wpList Try.prog ops Q rest (a.put dst (.agg h.rx.cells)) w) : wpList Try.prog ops Q (⟨dst, .load 24 x, ty, pos, after, gd⟩ :: rest) a w :=
  BigFrame.wpList_want hw fun K hK => wp_load_mid 24 x rfl b 0 hx h.rx.cells.toList _ (ext_rx h ▸ World.rangeAt_of_block hr 0 h.rx.cells.size) Try.underlying24 rfl size_fr (hK _ _ k)
theorem st_rxr (b : Nat) (h : U) (f : F) (t' : TypeId) (hr : RowAt w b h.cells t') (hx : a.eval x = .pointer (some ⟨b, 0, none⟩)) (hy : a.eval y = .agg f.cells)
    (k : ∀ W, RowAt W b (withRx h f).cells t' → Only b w W → wpList Try.prog ops Q rest (a.put dst undef) W) : wpList Try.prog ops Q (⟨dst, .store 24 x y, ty, pos, after, none⟩ :: rest) a w :=
  op_store_mid b 0 hx f.cells hy h.cells _ _ hr size_fr (by show 0 + 17 ≤ 42; decide) (f_one f) (putAll_rx h f) k
theorem ld_txr (b : Nat) (h : U) (t' : TypeId) (hr : RowAt w b h.cells t') (hx : a.eval x = .pointer (some ⟨b, 17, none⟩)) (hw : Region.wanted ⟨dst, .load 24 x, ty, pos, after, gd⟩ (yielded ops a.tmps) = true)
    (k : wpList Try.prog ops Q rest (a.put dst (.agg h.tx.cells)) w) : wpList Try.prog ops Q (⟨dst, .load 24 x, ty, pos, after, gd⟩ :: rest) a w :=
  BigFrame.wpList_want hw fun K hK => wp_load_mid 24 x rfl b 17 hx h.tx.cells.toList _ (ext_tx h ▸ World.rangeAt_of_block hr 17 h.tx.cells.size) Try.underlying24 rfl size_fr (hK _ _ k)
theorem st_txr (b : Nat) (h : U) (f : F) (t' : TypeId) (hr : RowAt w b h.cells t') (hx : a.eval x = .pointer (some ⟨b, 17, none⟩)) (hy : a.eval y = .agg f.cells)
    (k : ∀ W, RowAt W b (withTx h f).cells t' → Only b w W → wpList Try.prog ops Q rest (a.put dst undef) W) : wpList Try.prog ops Q (⟨dst, .store 24 x y, ty, pos, after, none⟩ :: rest) a w :=
  op_store_mid b 17 hx f.cells hy h.cells _ _ hr size_fr (by show 17 + 17 ≤ 42; decide) (f_one f) (putAll_tx h f) k
theorem ld_b (b r : Nat) (h : F) (t' : TypeId) (hr' : r < 16) (hr : RowAt w b h.cells t') (hx : a.eval x = .pointer (some ⟨b, r, none⟩))
    (k : wpList Try.prog ops Q rest (a.put dst (.int .u8 (h.b r : Nat))) w) : wpList Try.prog ops Q (⟨dst, .load 5 x, ty, pos, after, none⟩ :: rest) a w :=
  op_load_cell b r hx h.cells _ _ hr (h.cell_b r hr') _ Try.underlying5 rfl k
theorem st_b (b r : Nat) (h : F) (p : Nat) (t' : TypeId) (hr' : r < 16) (hr : RowAt w b h.cells t') (hx : a.eval x = .pointer (some ⟨b, r, none⟩)) (hy : a.eval y = .int .u8 (p : Nat))
    (k : ∀ W, RowAt W b (F.cells ⟨setB h.b r p, h.n⟩) t' → Only b w W → wpList Try.prog ops Q rest (a.put dst undef) W) : wpList Try.prog ops Q (⟨dst, .store 5 x y, ty, pos, after, none⟩ :: rest) a w :=
  op_store_cell b r hx _ hy h.cells _ _ hr size_byte (by show r < 17; omega) rfl (F.set_b h r p hr') k
theorem ld_n (b : Nat) (h : F) (t' : TypeId) (hr : RowAt w b h.cells t') (hx : a.eval x = .pointer (some ⟨b, 16, none⟩))
    (k : wpList Try.prog ops Q rest (a.put dst (.int .i64 h.n)) w) : wpList Try.prog ops Q (⟨dst, .load 3 x, ty, pos, after, none⟩ :: rest) a w :=
  op_load_cell b 16 hx h.cells _ _ hr rfl _ Try.underlying3 rfl k
theorem st_n (b : Nat) (h : F) (n : Int) (t' : TypeId) (hr : RowAt w b h.cells t') (hx : a.eval x = .pointer (some ⟨b, 16, none⟩)) (hy : a.eval y = .int .i64 n)
    (k : ∀ W, RowAt W b (F.cells ⟨h.b, n⟩) t' → Only b w W → wpList Try.prog ops Q rest (a.put dst undef) W) : wpList Try.prog ops Q (⟨dst, .store 3 x y, ty, pos, after, none⟩ :: rest) a w :=
  op_store_cell b 16 hx _ hy h.cells _ _ hr size_int (by show 16 < 17; decide) rfl rfl k
theorem ld_arr (b : Nat) (h : F) (t' : TypeId) (hr : RowAt w b h.cells t') (hx : a.eval x = .pointer (some ⟨b, 0, none⟩))
    (k : wpList Try.prog ops Q rest (a.put dst (.agg h.arr)) w) : wpList Try.prog ops Q (⟨dst, .load 22 x, ty, pos, after, none⟩ :: rest) a w :=
  op_load_mid b 0 hx h.cells h.arr _ hr (ext_arr h) _ Try.underlying22 rfl size_arr k
theorem ld_rn (b : Nat) (h : U) (t' : TypeId) (hr : RowAt w b h.cells t') (hx : a.eval x = .pointer (some ⟨b, 16, none⟩))
    (k : wpList Try.prog ops Q rest (a.put dst (.int .i64 h.rx.n)) w) : wpList Try.prog ops Q (⟨dst, .load 3 x, ty, pos, after, none⟩ :: rest) a w :=
  op_load_cell b 16 hx h.cells _ _ hr rfl _ Try.underlying3 rfl k
theorem st_rn (b : Nat) (h : U) (n : Int) (t' : TypeId) (hr : RowAt w b h.cells t') (hx : a.eval x = .pointer (some ⟨b, 16, none⟩)) (hy : a.eval y = .int .i64 n)
    (k : ∀ W, RowAt W b (withRx h ⟨h.rx.b, n⟩).cells t' → Only b w W → wpList Try.prog ops Q rest (a.put dst undef) W) : wpList Try.prog ops Q (⟨dst, .store 3 x y, ty, pos, after, none⟩ :: rest) a w :=
  op_store_cell b 16 hx _ hy h.cells _ _ hr size_int (by show 16 < 42; decide) rfl rfl k
theorem y_rn (b : Nat) (h : U) (t' : TypeId) (hS : ∀ V, S V → RowAt V b h.cells t') (hx : a.eval x = .pointer (some ⟨b, 16, none⟩)) :
    YieldsIf Try.prog ops S ⟨dst, .load 3 x, ty, pos, after, none⟩ (.int .i64 h.rx.n) a := y_cell b 16 _ (fun V hV => ((hS V hV).cell 16).trans rfl) _ Try.underlying3 rfl hx
theorem ld_tn (b : Nat) (h : U) (t' : TypeId) (hr : RowAt w b h.cells t') (hx : a.eval x = .pointer (some ⟨b, 33, none⟩))
    (k : wpList Try.prog ops Q rest (a.put dst (.int .i64 h.tx.n)) w) : wpList Try.prog ops Q (⟨dst, .load 3 x, ty, pos, after, none⟩ :: rest) a w :=
  op_load_cell b 33 hx h.cells _ _ hr rfl _ Try.underlying3 rfl k
theorem st_tn (b : Nat) (h : U) (n : Int) (t' : TypeId) (hr : RowAt w b h.cells t') (hx : a.eval x = .pointer (some ⟨b, 33, none⟩)) (hy : a.eval y = .int .i64 n)
    (k : ∀ W, RowAt W b (withTx h ⟨h.tx.b, n⟩).cells t' → Only b w W → wpList Try.prog ops Q rest (a.put dst undef) W) : wpList Try.prog ops Q (⟨dst, .store 3 x y, ty, pos, after, none⟩ :: rest) a w :=
  op_store_cell b 33 hx _ hy h.cells _ _ hr size_int (by show 33 < 42; decide) rfl rfl k
theorem y_tn (b : Nat) (h : U) (t' : TypeId) (hS : ∀ V, S V → RowAt V b h.cells t') (hx : a.eval x = .pointer (some ⟨b, 33, none⟩)) :
    YieldsIf Try.prog ops S ⟨dst, .load 3 x, ty, pos, after, none⟩ (.int .i64 h.tx.n) a := y_cell b 33 _ (fun V hV => ((hS V hV).cell 33).trans rfl) _ Try.underlying3 rfl hx
theorem ld_ov (b : Nat) (h : U) (t' : TypeId) (hr : RowAt w b h.cells t') (hx : a.eval x = .pointer (some ⟨b, 40, none⟩))
    (k : wpList Try.prog ops Q rest (a.put dst (.bool h.ov)) w) : wpList Try.prog ops Q (⟨dst, .load 4 x, ty, pos, after, none⟩ :: rest) a w :=
  op_load_cell b 40 hx h.cells _ _ hr rfl _ Try.underlying4 rfl k
theorem st_ov (b : Nat) (h : U) (n : Bool) (t' : TypeId) (hr : RowAt w b h.cells t') (hx : a.eval x = .pointer (some ⟨b, 40, none⟩)) (hy : a.eval y = .bool n)
    (k : ∀ W, RowAt W b (withOv h n).cells t' → Only b w W → wpList Try.prog ops Q rest (a.put dst undef) W) : wpList Try.prog ops Q (⟨dst, .store 4 x y, ty, pos, after, none⟩ :: rest) a w :=
  op_store_cell b 40 hx _ hy h.cells _ _ hr size_bool (by show 40 < 42; decide) rfl rfl k
theorem y_ov (b : Nat) (h : U) (t' : TypeId) (hS : ∀ V, S V → RowAt V b h.cells t') (hx : a.eval x = .pointer (some ⟨b, 40, none⟩)) :
    YieldsIf Try.prog ops S ⟨dst, .load 4 x, ty, pos, after, none⟩ (.bool h.ov) a := y_cell b 40 _ (fun V hV => ((hS V hV).cell 40).trans rfl) _ Try.underlying4 rfl hx
theorem ld_wt (b : Nat) (h : U) (t' : TypeId) (hr : RowAt w b h.cells t') (hx : a.eval x = .pointer (some ⟨b, 41, none⟩))
    (k : wpList Try.prog ops Q rest (a.put dst (.int .i64 h.wt)) w) : wpList Try.prog ops Q (⟨dst, .load 3 x, ty, pos, after, none⟩ :: rest) a w :=
  op_load_cell b 41 hx h.cells _ _ hr rfl _ Try.underlying3 rfl k
theorem st_wt (b : Nat) (h : U) (n : Int) (t' : TypeId) (hr : RowAt w b h.cells t') (hx : a.eval x = .pointer (some ⟨b, 41, none⟩)) (hy : a.eval y = .int .i64 n)
    (k : ∀ W, RowAt W b (withWt h n).cells t' → Only b w W → wpList Try.prog ops Q rest (a.put dst undef) W) : wpList Try.prog ops Q (⟨dst, .store 3 x y, ty, pos, after, none⟩ :: rest) a w :=
  op_store_cell b 41 hx _ hy h.cells _ _ hr size_int (by show 41 < 42; decide) rfl rfl k
theorem y_wt (b : Nat) (h : U) (t' : TypeId) (hS : ∀ V, S V → RowAt V b h.cells t') (hx : a.eval x = .pointer (some ⟨b, 41, none⟩)) :
    YieldsIf Try.prog ops S ⟨dst, .load 3 x, ty, pos, after, none⟩ (.int .i64 h.wt) a := y_cell b 41 _ (fun V hV => ((hS V hV).cell 41).trans rfl) _ Try.underlying3 rfl hx
theorem ld_ie (b : Nat) (h : U) (t' : TypeId) (hr : RowAt w b h.cells t') (hx : a.eval x = .pointer (some ⟨b, 34, none⟩))
    (k : wpList Try.prog ops Q rest (a.put dst (.int .u8 (h.ie : Nat))) w) : wpList Try.prog ops Q (⟨dst, .load 5 x, ty, pos, after, none⟩ :: rest) a w :=
  op_load_cell b 34 hx h.cells _ _ hr rfl _ Try.underlying5 rfl k
theorem st_ie (b : Nat) (h : U) (n : Nat) (t' : TypeId) (hr : RowAt w b h.cells t') (hx : a.eval x = .pointer (some ⟨b, 34, none⟩)) (hy : a.eval y = .int .u8 (n : Nat))
    (k : ∀ W, RowAt W b (withIe h n).cells t' → Only b w W → wpList Try.prog ops Q rest (a.put dst undef) W) : wpList Try.prog ops Q (⟨dst, .store 5 x y, ty, pos, after, none⟩ :: rest) a w :=
  op_store_cell b 34 hx _ hy h.cells _ _ hr size_byte (by show 34 < 42; decide) rfl rfl k
theorem y_ie (b : Nat) (h : U) (t' : TypeId) (hS : ∀ V, S V → RowAt V b h.cells t') (hx : a.eval x = .pointer (some ⟨b, 34, none⟩)) :
    YieldsIf Try.prog ops S ⟨dst, .load 5 x, ty, pos, after, none⟩ (.int .u8 (h.ie : Nat)) a := y_cell b 34 _ (fun V hV => ((hS V hV).cell 34).trans rfl) _ Try.underlying5 rfl hx
theorem ld_lc (b : Nat) (h : U) (t' : TypeId) (hr : RowAt w b h.cells t') (hx : a.eval x = .pointer (some ⟨b, 35, none⟩))
    (k : wpList Try.prog ops Q rest (a.put dst (.int .u8 (h.lc : Nat))) w) : wpList Try.prog ops Q (⟨dst, .load 5 x, ty, pos, after, none⟩ :: rest) a w :=
  op_load_cell b 35 hx h.cells _ _ hr rfl _ Try.underlying5 rfl k
theorem st_lc (b : Nat) (h : U) (n : Nat) (t' : TypeId) (hr : RowAt w b h.cells t') (hx : a.eval x = .pointer (some ⟨b, 35, none⟩)) (hy : a.eval y = .int .u8 (n : Nat))
    (k : ∀ W, RowAt W b (withLc h n).cells t' → Only b w W → wpList Try.prog ops Q rest (a.put dst undef) W) : wpList Try.prog ops Q (⟨dst, .store 5 x y, ty, pos, after, none⟩ :: rest) a w :=
  op_store_cell b 35 hx _ hy h.cells _ _ hr size_byte (by show 35 < 42; decide) rfl rfl k
theorem y_lc (b : Nat) (h : U) (t' : TypeId) (hS : ∀ V, S V → RowAt V b h.cells t') (hx : a.eval x = .pointer (some ⟨b, 35, none⟩)) :
    YieldsIf Try.prog ops S ⟨dst, .load 5 x, ty, pos, after, none⟩ (.int .u8 (h.lc : Nat)) a := y_cell b 35 _ (fun V hV => ((hS V hV).cell 35).trans rfl) _ Try.underlying5 rfl hx
theorem ld_mc (b : Nat) (h : U) (t' : TypeId) (hr : RowAt w b h.cells t') (hx : a.eval x = .pointer (some ⟨b, 36, none⟩))
    (k : wpList Try.prog ops Q rest (a.put dst (.int .u8 (h.mc : Nat))) w) : wpList Try.prog ops Q (⟨dst, .load 5 x, ty, pos, after, none⟩ :: rest) a w :=
  op_load_cell b 36 hx h.cells _ _ hr rfl _ Try.underlying5 rfl k
theorem st_mc (b : Nat) (h : U) (n : Nat) (t' : TypeId) (hr : RowAt w b h.cells t') (hx : a.eval x = .pointer (some ⟨b, 36, none⟩)) (hy : a.eval y = .int .u8 (n : Nat))
    (k : ∀ W, RowAt W b (withMc h n).cells t' → Only b w W → wpList Try.prog ops Q rest (a.put dst undef) W) : wpList Try.prog ops Q (⟨dst, .store 5 x y, ty, pos, after, none⟩ :: rest) a w :=
  op_store_cell b 36 hx _ hy h.cells _ _ hr size_byte (by show 36 < 42; decide) rfl rfl k
theorem y_mc (b : Nat) (h : U) (t' : TypeId) (hS : ∀ V, S V → RowAt V b h.cells t') (hx : a.eval x = .pointer (some ⟨b, 36, none⟩)) :
    YieldsIf Try.prog ops S ⟨dst, .load 5 x, ty, pos, after, none⟩ (.int .u8 (h.mc : Nat)) a := y_cell b 36 _ (fun V hV => ((hS V hV).cell 36).trans rfl) _ Try.underlying5 rfl hx
theorem ld_sc (b : Nat) (h : U) (t' : TypeId) (hr : RowAt w b h.cells t') (hx : a.eval x = .pointer (some ⟨b, 37, none⟩))
    (k : wpList Try.prog ops Q rest (a.put dst (.int .u8 (h.sc : Nat))) w) : wpList Try.prog ops Q (⟨dst, .load 5 x, ty, pos, after, none⟩ :: rest) a w :=
  op_load_cell b 37 hx h.cells _ _ hr rfl _ Try.underlying5 rfl k
theorem st_sc (b : Nat) (h : U) (n : Nat) (t' : TypeId) (hr : RowAt w b h.cells t') (hx : a.eval x = .pointer (some ⟨b, 37, none⟩)) (hy : a.eval y = .int .u8 (n : Nat))
    (k : ∀ W, RowAt W b (withSc h n).cells t' → Only b w W → wpList Try.prog ops Q rest (a.put dst undef) W) : wpList Try.prog ops Q (⟨dst, .store 5 x y, ty, pos, after, none⟩ :: rest) a w :=
  op_store_cell b 37 hx _ hy h.cells _ _ hr size_byte (by show 37 < 42; decide) rfl rfl k
theorem y_sc (b : Nat) (h : U) (t' : TypeId) (hS : ∀ V, S V → RowAt V b h.cells t') (hx : a.eval x = .pointer (some ⟨b, 37, none⟩)) :
    YieldsIf Try.prog ops S ⟨dst, .load 5 x, ty, pos, after, none⟩ (.int .u8 (h.sc : Nat)) a := y_cell b 37 _ (fun V hV => ((hS V hV).cell 37).trans rfl) _ Try.underlying5 rfl hx
theorem ld_dl (b : Nat) (h : U) (t' : TypeId) (hr : RowAt w b h.cells t') (hx : a.eval x = .pointer (some ⟨b, 38, none⟩))
    (k : wpList Try.prog ops Q rest (a.put dst (.int .u8 (h.dl : Nat))) w) : wpList Try.prog ops Q (⟨dst, .load 5 x, ty, pos, after, none⟩ :: rest) a w :=
  op_load_cell b 38 hx h.cells _ _ hr rfl _ Try.underlying5 rfl k
theorem st_dl (b : Nat) (h : U) (n : Nat) (t' : TypeId) (hr : RowAt w b h.cells t') (hx : a.eval x = .pointer (some ⟨b, 38, none⟩)) (hy : a.eval y = .int .u8 (n : Nat))
    (k : ∀ W, RowAt W b (withDl h n).cells t' → Only b w W → wpList Try.prog ops Q rest (a.put dst undef) W) : wpList Try.prog ops Q (⟨dst, .store 5 x y, ty, pos, after, none⟩ :: rest) a w :=
  op_store_cell b 38 hx _ hy h.cells _ _ hr size_byte (by show 38 < 42; decide) rfl rfl k
theorem y_dl (b : Nat) (h : U) (t' : TypeId) (hS : ∀ V, S V → RowAt V b h.cells t') (hx : a.eval x = .pointer (some ⟨b, 38, none⟩)) :
    YieldsIf Try.prog ops S ⟨dst, .load 5 x, ty, pos, after, none⟩ (.int .u8 (h.dl : Nat)) a := y_cell b 38 _ (fun V hV => ((hS V hV).cell 38).trans rfl) _ Try.underlying5 rfl hx
theorem ld_dm (b : Nat) (h : U) (t' : TypeId) (hr : RowAt w b h.cells t') (hx : a.eval x = .pointer (some ⟨b, 39, none⟩))
    (k : wpList Try.prog ops Q rest (a.put dst (.int .u8 (h.dm : Nat))) w) : wpList Try.prog ops Q (⟨dst, .load 5 x, ty, pos, after, none⟩ :: rest) a w :=
  op_load_cell b 39 hx h.cells _ _ hr rfl _ Try.underlying5 rfl k
theorem st_dm (b : Nat) (h : U) (n : Nat) (t' : TypeId) (hr : RowAt w b h.cells t') (hx : a.eval x = .pointer (some ⟨b, 39, none⟩)) (hy : a.eval y = .int .u8 (n : Nat))
    (k : ∀ W, RowAt W b (withDm h n).cells t' → Only b w W → wpList Try.prog ops Q rest (a.put dst undef) W) : wpList Try.prog ops Q (⟨dst, .store 5 x y, ty, pos, after, none⟩ :: rest) a w :=
  op_store_cell b 39 hx _ hy h.cells _ _ hr size_byte (by show 39 < 42; decide) rfl rfl k
theorem y_dm (b : Nat) (h : U) (t' : TypeId) (hS : ∀ V, S V → RowAt V b h.cells t') (hx : a.eval x = .pointer (some ⟨b, 39, none⟩)) :
    YieldsIf Try.prog ops S ⟨dst, .load 5 x, ty, pos, after, none⟩ (.int .u8 (h.dm : Nat)) a := y_cell b 39 _ (fun V hV => ((hS V hV).cell 39).trans rfl) _ Try.underlying5 rfl hx
def errP (n : Nat) : Value := if n = 0 then .nilIface else .iface 63 (.int .i64 (n : Int))
theorem results_cell_one {P : Program} {fn : Func} {p u : Tmp} {ty : TypeId} (h : fn.results = #[.cell p ty, .tmp u]) (tmps : Array Value) (w : World) (g : Nat) (t : TypeId) (cs : Array Value) (d : TypeDesc)
    (hp : tmps.getD p undef = .pointer (some ⟨g, 0, none⟩)) (hg : RowAt w g cs t) (hu : P.underlying ty = some d) (hd : d.isRow = true) (hi : (P.info? ty).map (·.size) = some cs.size) :
    (results fn tmps).run P w = .ok (.tuple #[.agg cs, tmps.getD u undef]) w := by
  have e : tmps[p]?.getD undef = .pointer (some ⟨g, 0, none⟩) := by simpa using hp
  have l := run_loadVar_row w g t ty cs (0, 0) d hg hu (by cases d <;> first | rfl | cases hd) hi
  simp [results, h, e, asAddr, l]
theorem results_cell_two {P : Program} {fn : Func} {p u v : Tmp} {ty : TypeId} (h : fn.results = #[.cell p ty, .tmp u, .tmp v]) (tmps : Array Value) (w : World) (g : Nat) (t : TypeId) (cs : Array Value) (d : TypeDesc)
    (hp : tmps.getD p undef = .pointer (some ⟨g, 0, none⟩)) (hg : RowAt w g cs t) (hu : P.underlying ty = some d) (hd : d.isRow = true) (hi : (P.info? ty).map (·.size) = some cs.size) :
    (results fn tmps).run P w = .ok (.tuple #[.agg cs, tmps.getD u undef, tmps.getD v undef]) w := by
  have e : tmps[p]?.getD undef = .pointer (some ⟨g, 0, none⟩) := by simpa using hp
  have l := run_loadVar_row w g t ty cs (0, 0) d hg hu (by cases d <;> first | rfl | cases hd) hi
  simp [results, h, e, asAddr, l]
end Go.Proofs.Ythopfecjnbfnmaa
