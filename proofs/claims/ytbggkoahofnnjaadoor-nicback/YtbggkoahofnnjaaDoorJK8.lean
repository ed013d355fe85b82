/-
  What virtio's Check and checkAccess answer.
-/
import Derived.Test.YtbggkoahofnnjaaDoorJK1
import Derived.Test.YtbggkoahofnnjaaDoorJK7
import Derived.Deep.WholeRow
import Derived.RegionTactic
import Derived.Laws.ResultCell
import Derived.Deep.RegionHeld3
import Derived.Laws.StructEq
import Derived.ChangeKeysEq
import Derived.Laws.BitsAllLaws
namespace Go.Proofs.YtbggkoahofnnjaaDoor
open Go.RowKit
set_option linter.unusedVariables false
set_option linter.unusedSimpArgs false

def Rg.cells (s : Rg) : Array Value := #[.int .i64 s.sz, .int .u32 (s.de : Nat), .int .u32 (s.av : Nat), .int .u32 (s.us : Nat), .int .u16 (s.la : Nat), .int .u16 (s.pu : Nat)]
theorem Rg.at0 (s : Rg) : s.cells[0]? = some (.int .i64 s.sz) := rfl
theorem Rg.at1 (s : Rg) : s.cells[1]? = some (.int .u32 (s.de : Nat)) := rfl
theorem Rg.at2 (s : Rg) : s.cells[2]? = some (.int .u32 (s.av : Nat)) := rfl
theorem Rg.at3 (s : Rg) : s.cells[3]? = some (.int .u32 (s.us : Nat)) := rfl
theorem Rg.at4 (s : Rg) : s.cells[4]? = some (.int .u16 (s.la : Nat)) := rfl
theorem Rg.at5 (s : Rg) : s.cells[5]? = some (.int .u16 (s.pu : Nat)) := rfl
theorem size_u32i : (Tryd.prog.info? 24).map (·.size) = some 1 := by kernel_rfl
theorem size_u16i : (Tryd.prog.info? 34).map (·.size) = some 1 := by kernel_rfl
theorem size_i64i : (Tryd.prog.info? 3).map (·.size) = some 1 := by kernel_rfl
theorem size_boi : (Tryd.prog.info? 4).map (·.size) = some 1 := by kernel_rfl
theorem rg_one (s : Rg) : s.cells.all (·.oneCell') = true := by simp [Rg.cells, Value.oneCell']
def errR (n : Nat) : Value := if n = 0 then .nilIface else .iface 59 (.int .i64 (n : Int))
variable {ops : Array Oper} {rest : List Oper} {dst : Option Tmp} {ty : TypeId} {pos : String} {after : Array Edge} {a : Act} {w : World} {Q : Exit → Act → World → Prop} {x y : Operand} {b : Nat} {S : World → Prop} {K : Act → World → Prop} {gd : Option (Nat × Bool)}
theorem op_load_cellg {P : Program} {t : TypeId} (b j : Nat) (hx : a.eval x = .pointer (some ⟨b, j, none⟩)) (cs : Array Value) (v : Value) (t' : TypeId) (hr : RowAt w b cs t') (hv : cs[j]? = some v) (d : TypeDesc) (hu : P.underlying t = some d) (hd : d.isRow = false)
    (hw : Region.wanted ⟨dst, .load t x, ty, pos, after, gd⟩ (yielded ops a.tmps) = true) (k : wpList P ops Q rest (a.put dst v) w) : wpList P ops Q (⟨dst, .load t x, ty, pos, after, gd⟩ :: rest) a w := by
  have hcell : w.cell? ⟨b, j, none⟩ = some v := (hr.cell j).trans hv
  have hrun : (loadVar t ⟨b, j, none⟩).run P w = .ok v w := by
    have hagg : (isAgg t).run P w = .ok false w := by
      unfold isAgg
      rw [Sem.run_bind, run_underlying hu w]
      cases d <;> simp_all
    simp [loadVar, Sem.run_bind, hagg, hcell]
  refine BigFrame.wpList_want hw fun K hK => ?_
  unfold Oper.wp execOp
  simp only [hx, Instr.loadAt, Instr.sureAddr, Sem.run_bind, Sem.run_pure, Result.andThen_ok, hrun]
  exact hK _ _ k
theorem size_rp : (Tryd.prog.info? 36).map (·.size) = some 6 := by kernel_rfl
theorem zero_rp (w : World) : (zeroValue 36).run Tryd.prog w = .ok (.agg zeroRg.cells) w :=
  (zero_of_info (P := Tryd.prog) (t := 36) (v := .agg zeroRg.cells) (n := 6) (by kernel_rfl)).1 w
theorem bx_rp (N : Nat) (h : Rg) (hN : w.heap.size = N) (hx : a.eval x = .agg h.cells)
    (k : ∀ W, RowAt W N h.cells 36 → Below N w W → Hid (W.heap.size = N + 1) → wpList Tryd.prog ops Q rest (a.put dst (.pointer (some ⟨N, 0, none⟩))) W) :
    wpList Tryd.prog ops Q (⟨dst, .box 36 x, ty, pos, after, none⟩ :: rest) a w := op_box N hN h.cells hx k
theorem al_rp (N : Nat) (hN : w.heap.size = N)
    (k : ∀ W, RowAt W N zeroRg.cells 36 → Below N w W → Hid (W.heap.size = N + 1) → wpList Tryd.prog ops Q rest (a.put dst (.pointer (some ⟨N, 0, none⟩))) W) :
    wpList Tryd.prog ops Q (⟨dst, .alloc 36, ty, pos, after, none⟩ :: rest) a w := op_alloc N hN zeroRg.cells zero_rp k
theorem ld_rp (b : Nat) (h : Rg) (hr : RowAt w b h.cells 36) (hx : a.eval x = .pointer (some ⟨b, 0, none⟩)) (hw : Region.wanted ⟨dst, .load 36 x, ty, pos, after, gd⟩ (yielded ops a.tmps) = true)
    (k : wpList Tryd.prog ops Q rest (a.put dst (.agg h.cells)) w) : wpList Tryd.prog ops Q (⟨dst, .load 36 x, ty, pos, after, gd⟩ :: rest) a w :=
  BigFrame.wpList_want hw fun K hK => wp_load_row 36 x rfl b hx _ h.cells (0, 0) _ hr Tryd.underlying36 rfl size_rp (hK _ _ k)
theorem st_rp (b : Nat) (old h : Rg) (hr : RowAt w b old.cells 36) (hx : a.eval x = .pointer (some ⟨b, 0, none⟩)) (hy : a.eval y = .agg h.cells)
    (k : ∀ W, RowAt W b h.cells 36 → Only b w W → wpList Tryd.prog ops Q rest (a.put dst undef) W) : wpList Tryd.prog ops Q (⟨dst, .store 36 x y, ty, pos, after, none⟩ :: rest) a w :=
  op_store b hx h.cells hy old.cells _ hr size_rp rfl (rg_one h) k
theorem y_rp (b : Nat) (h : Rg) (hS : ∀ V, S V → RowAt V b h.cells 36) (hx : a.eval x = .pointer (some ⟨b, 0, none⟩)) (hw : Region.wanted ⟨dst, .load 36 x, ty, pos, after, gd⟩ (yielded ops a.tmps) = true) :
    YieldsIf Tryd.prog ops S ⟨dst, .load 36 x, ty, pos, after, gd⟩ (.agg h.cells) a := by
  rcases y_load (ops := ops) (P := Tryd.prog) (t := 36) (dst := dst) (ty := ty) (after := after) (a := a) (x := x) (pos := pos) (S := S) b h.cells _ hS _ Tryd.underlying36 rfl size_rp hx with ⟨_, h2⟩ | ⟨h1, _⟩
  · exact .inl ⟨hw, fun V hV => h2 V hV⟩
  · simp [Region.wanted] at h1
end Go.Proofs.YtbggkoahofnnjaaDoor
namespace Go.Proofs.YtbggkoahofnnjaaDoor
open Go.RowKit
set_option linter.unusedVariables false

def Qu.cells (s : Qu) : Array Value := #[.bool s.rd, .int .i64 s.r.sz, .int .u32 (s.r.de : Nat), .int .u32 (s.r.av : Nat), .int .u32 (s.r.us : Nat), .int .u16 (s.r.la : Nat), .int .u16 (s.r.pu : Nat)]
def V.cells (s : V) : Array Value := #[.int .u32 (s.st : Nat), .int .u32 (s.fs : Nat), .int .u32 (s.ds : Nat), .int .u32 (s.se : Nat), .int .u32 (s.ir : Nat), .int .u32 (s.d0 : Nat), .int .u32 (s.d1 : Nat), .bool s.q0.rd, .int .i64 s.q0.r.sz, .int .u32 (s.q0.r.de : Nat), .int .u32 (s.q0.r.av : Nat), .int .u32 (s.q0.r.us : Nat), .int .u16 (s.q0.r.la : Nat), .int .u16 (s.q0.r.pu : Nat), .bool s.q1.rd, .int .i64 s.q1.r.sz, .int .u32 (s.q1.r.de : Nat), .int .u32 (s.q1.r.av : Nat), .int .u32 (s.q1.r.us : Nat), .int .u16 (s.q1.r.la : Nat), .int .u16 (s.q1.r.pu : Nat)]
def V.qs (s : V) : Array Value := #[.bool s.q0.rd, .int .i64 s.q0.r.sz, .int .u32 (s.q0.r.de : Nat), .int .u32 (s.q0.r.av : Nat), .int .u32 (s.q0.r.us : Nat), .int .u16 (s.q0.r.la : Nat), .int .u16 (s.q0.r.pu : Nat), .bool s.q1.rd, .int .i64 s.q1.r.sz, .int .u32 (s.q1.r.de : Nat), .int .u32 (s.q1.r.av : Nat), .int .u32 (s.q1.r.us : Nat), .int .u16 (s.q1.r.la : Nat), .int .u16 (s.q1.r.pu : Nat)]
def V.drv (s : V) : Array Value := #[.int .u32 (s.d0 : Nat), .int .u32 (s.d1 : Nat)]
theorem Qu.at0 (s : Qu) : s.cells[0]? = some (.bool s.rd) := rfl
theorem Qu.at1 (s : Qu) : s.cells[1]? = some (.int .i64 s.r.sz) := rfl
theorem Qu.at2 (s : Qu) : s.cells[2]? = some (.int .u32 (s.r.de : Nat)) := rfl
theorem Qu.at3 (s : Qu) : s.cells[3]? = some (.int .u32 (s.r.av : Nat)) := rfl
theorem Qu.at4 (s : Qu) : s.cells[4]? = some (.int .u32 (s.r.us : Nat)) := rfl
theorem Qu.at5 (s : Qu) : s.cells[5]? = some (.int .u16 (s.r.la : Nat)) := rfl
theorem Qu.at6 (s : Qu) : s.cells[6]? = some (.int .u16 (s.r.pu : Nat)) := rfl
theorem V.at0 (s : V) : s.cells[0]? = some (.int .u32 (s.st : Nat)) := rfl
theorem V.at1 (s : V) : s.cells[1]? = some (.int .u32 (s.fs : Nat)) := rfl
theorem V.at2 (s : V) : s.cells[2]? = some (.int .u32 (s.ds : Nat)) := rfl
theorem V.at3 (s : V) : s.cells[3]? = some (.int .u32 (s.se : Nat)) := rfl
theorem V.at4 (s : V) : s.cells[4]? = some (.int .u32 (s.ir : Nat)) := rfl
theorem V.at5 (s : V) : s.cells[5]? = some (.int .u32 (s.d0 : Nat)) := rfl
theorem V.at6 (s : V) : s.cells[6]? = some (.int .u32 (s.d1 : Nat)) := rfl
theorem V.at7 (s : V) : s.cells[7]? = some (.bool s.q0.rd) := rfl
theorem V.at8 (s : V) : s.cells[8]? = some (.int .i64 s.q0.r.sz) := rfl
theorem V.at9 (s : V) : s.cells[9]? = some (.int .u32 (s.q0.r.de : Nat)) := rfl
theorem V.at10 (s : V) : s.cells[10]? = some (.int .u32 (s.q0.r.av : Nat)) := rfl
theorem V.at11 (s : V) : s.cells[11]? = some (.int .u32 (s.q0.r.us : Nat)) := rfl
theorem V.at12 (s : V) : s.cells[12]? = some (.int .u16 (s.q0.r.la : Nat)) := rfl
theorem V.at13 (s : V) : s.cells[13]? = some (.int .u16 (s.q0.r.pu : Nat)) := rfl
theorem V.at14 (s : V) : s.cells[14]? = some (.bool s.q1.rd) := rfl
theorem V.at15 (s : V) : s.cells[15]? = some (.int .i64 s.q1.r.sz) := rfl
theorem V.at16 (s : V) : s.cells[16]? = some (.int .u32 (s.q1.r.de : Nat)) := rfl
theorem V.at17 (s : V) : s.cells[17]? = some (.int .u32 (s.q1.r.av : Nat)) := rfl
theorem V.at18 (s : V) : s.cells[18]? = some (.int .u32 (s.q1.r.us : Nat)) := rfl
theorem V.at19 (s : V) : s.cells[19]? = some (.int .u16 (s.q1.r.la : Nat)) := rfl
theorem V.at20 (s : V) : s.cells[20]? = some (.int .u16 (s.q1.r.pu : Nat)) := rfl
theorem vi_one (s : V) : s.cells.all (·.oneCell') = true := by simp [V.cells, Value.oneCell']
theorem size_drv : (Tryd.prog.info? 32).map (·.size) = some 2 := by kernel_rfl
variable {ops : Array Oper} {rest : List Oper} {dst : Option Tmp} {ty : TypeId} {pos : String} {after : Array Edge} {a : Act} {w : World} {Q : Exit → Act → World → Prop} {x y : Operand} {b : Nat} {S : World → Prop} {K : Act → World → Prop} {gd : Option (Nat × Bool)}
theorem size_qp : (Tryd.prog.info? 38).map (·.size) = some 7 := by kernel_rfl
theorem size_vp : (Tryd.prog.info? 41).map (·.size) = some 21 := by kernel_rfl
theorem zero_vp (w : World) : (zeroValue 41).run Tryd.prog w = .ok (.agg zeroV.cells) w :=
  (zero_of_info (P := Tryd.prog) (t := 41) (v := .agg zeroV.cells) (n := 21) (by kernel_rfl)).1 w
theorem bx_vp (N : Nat) (h : V) (hN : w.heap.size = N) (hx : a.eval x = .agg h.cells)
    (k : ∀ W, RowAt W N h.cells 41 → Below N w W → Hid (W.heap.size = N + 1) → wpList Tryd.prog ops Q rest (a.put dst (.pointer (some ⟨N, 0, none⟩))) W) :
    wpList Tryd.prog ops Q (⟨dst, .box 41 x, ty, pos, after, none⟩ :: rest) a w := op_box N hN h.cells hx k
theorem al_vp (N : Nat) (hN : w.heap.size = N)
    (k : ∀ W, RowAt W N zeroV.cells 41 → Below N w W → Hid (W.heap.size = N + 1) → wpList Tryd.prog ops Q rest (a.put dst (.pointer (some ⟨N, 0, none⟩))) W) :
    wpList Tryd.prog ops Q (⟨dst, .alloc 41, ty, pos, after, none⟩ :: rest) a w := op_alloc N hN zeroV.cells zero_vp k
theorem ld_vp (b : Nat) (h : V) (hr : RowAt w b h.cells 41) (hx : a.eval x = .pointer (some ⟨b, 0, none⟩)) (hw : Region.wanted ⟨dst, .load 41 x, ty, pos, after, gd⟩ (yielded ops a.tmps) = true)
    (k : wpList Tryd.prog ops Q rest (a.put dst (.agg h.cells)) w) : wpList Tryd.prog ops Q (⟨dst, .load 41 x, ty, pos, after, gd⟩ :: rest) a w :=
  BigFrame.wpList_want hw fun K hK => wp_load_row 41 x rfl b hx _ h.cells (0, 0) _ hr Tryd.underlying41 rfl size_vp (hK _ _ k)
theorem st_vp (b : Nat) (old h : V) (hr : RowAt w b old.cells 41) (hx : a.eval x = .pointer (some ⟨b, 0, none⟩)) (hy : a.eval y = .agg h.cells)
    (k : ∀ W, RowAt W b h.cells 41 → Only b w W → wpList Tryd.prog ops Q rest (a.put dst undef) W) : wpList Tryd.prog ops Q (⟨dst, .store 41 x y, ty, pos, after, none⟩ :: rest) a w :=
  op_store b hx h.cells hy old.cells _ hr size_vp rfl (vi_one h) k
theorem ld_st (b : Nat) (h : V) (t' : TypeId) (hr : RowAt w b h.cells t') (hx : a.eval x = .pointer (some ⟨b, 0, none⟩)) (hw : Region.wanted ⟨dst, .load 24 x, ty, pos, after, gd⟩ (yielded ops a.tmps) = true)
    (k : wpList Tryd.prog ops Q rest (a.put dst (.int .u32 (h.st : Nat))) w) : wpList Tryd.prog ops Q (⟨dst, .load 24 x, ty, pos, after, gd⟩ :: rest) a w :=
  op_load_cellg b 0 hx h.cells _ _ hr rfl _ Tryd.underlying24 rfl hw k
theorem st_st (b : Nat) (h : V) (n : Nat) (t' : TypeId) (hr : RowAt w b h.cells t') (hx : a.eval x = .pointer (some ⟨b, 0, none⟩)) (hy : a.eval y = .int .u32 (n : Nat))
    (k : ∀ W, RowAt W b (h.stw n).cells t' → Only b w W → wpList Tryd.prog ops Q rest (a.put dst undef) W) : wpList Tryd.prog ops Q (⟨dst, .store 24 x y, ty, pos, after, none⟩ :: rest) a w :=
  op_store_cell b 0 hx _ hy h.cells _ _ hr size_u32i (by show 0 < 21; decide) rfl rfl k
theorem ld_ir (b : Nat) (h : V) (t' : TypeId) (hr : RowAt w b h.cells t') (hx : a.eval x = .pointer (some ⟨b, 4, none⟩)) (hw : Region.wanted ⟨dst, .load 24 x, ty, pos, after, gd⟩ (yielded ops a.tmps) = true)
    (k : wpList Tryd.prog ops Q rest (a.put dst (.int .u32 (h.ir : Nat))) w) : wpList Tryd.prog ops Q (⟨dst, .load 24 x, ty, pos, after, gd⟩ :: rest) a w :=
  op_load_cellg b 4 hx h.cells _ _ hr rfl _ Tryd.underlying24 rfl hw k
theorem st_ir (b : Nat) (h : V) (n : Nat) (t' : TypeId) (hr : RowAt w b h.cells t') (hx : a.eval x = .pointer (some ⟨b, 4, none⟩)) (hy : a.eval y = .int .u32 (n : Nat))
    (k : ∀ W, RowAt W b (h.irw n).cells t' → Only b w W → wpList Tryd.prog ops Q rest (a.put dst undef) W) : wpList Tryd.prog ops Q (⟨dst, .store 24 x y, ty, pos, after, none⟩ :: rest) a w :=
  op_store_cell b 4 hx _ hy h.cells _ _ hr size_u32i (by show 4 < 21; decide) rfl rfl k
theorem ld_rd0 (b : Nat) (h : V) (t' : TypeId) (hr : RowAt w b h.cells t') (hx : a.eval x = .pointer (some ⟨b, 7, none⟩)) (hw : Region.wanted ⟨dst, .load 4 x, ty, pos, after, gd⟩ (yielded ops a.tmps) = true)
    (k : wpList Tryd.prog ops Q rest (a.put dst (.bool h.q0.rd)) w) : wpList Tryd.prog ops Q (⟨dst, .load 4 x, ty, pos, after, gd⟩ :: rest) a w :=
  op_load_cellg b 7 hx h.cells _ _ hr rfl _ Tryd.underlying4 rfl hw k
theorem ld_rd1 (b : Nat) (h : V) (t' : TypeId) (hr : RowAt w b h.cells t') (hx : a.eval x = .pointer (some ⟨b, 14, none⟩)) (hw : Region.wanted ⟨dst, .load 4 x, ty, pos, after, gd⟩ (yielded ops a.tmps) = true)
    (k : wpList Tryd.prog ops Q rest (a.put dst (.bool h.q1.rd)) w) : wpList Tryd.prog ops Q (⟨dst, .load 4 x, ty, pos, after, gd⟩ :: rest) a w :=
  op_load_cellg b 14 hx h.cells _ _ hr rfl _ Tryd.underlying4 rfl hw k
theorem results_cell_two' {P : Program} {fn : Func} {p u v : Tmp} {ty : TypeId} (h : fn.results = #[.cell p ty, .tmp u, .tmp v]) (tmps : Array Value) (w : World) (g : Nat) (t : TypeId) (cs : Array Value) (d : TypeDesc)
    (hp : tmps.getD p undef = .pointer (some ⟨g, 0, none⟩)) (hg : RowAt w g cs t) (hu : P.underlying ty = some d) (hd : d.isRow = true) (hi : (P.info? ty).map (·.size) = some cs.size) :
    (results fn tmps).run P w = .ok (.tuple #[.agg cs, tmps.getD u undef, tmps.getD v undef]) w := by
  have e : tmps[p]?.getD undef = .pointer (some ⟨g, 0, none⟩) := by simpa using hp
  have l := run_loadVar_row w g t ty cs (0, 0) d hg hu (by cases d <;> first | rfl | cases hd) hi
  simp [results, h, e, asAddr, l]
end Go.Proofs.YtbggkoahofnnjaaDoor
namespace Go.Proofs.YtbggkoahofnnjaaDoor
open Go.RowKit
set_option linter.unusedVariables false
set_option linter.unusedSimpArgs false

attribute [local go_sem] Rg.at0 Rg.at1 Rg.at2 Rg.at3 Rg.at4 Rg.at5
theorem sizesI : ∀ n : Fin 257, 1 ≤ n.val → (bits .and .i64 (n.val : Int) ((n.val : Int) - 1) == 0) = okSz (n.val : Int) := by decide +kernel
theorem okSz_far {s : Int} (h : ¬ (1 ≤ s ∧ s ≤ 256)) : okSz s = false := by
  rw [Bool.eq_false_iff]
  intro e
  have := okSz_cases e
  omega
set_option maxHeartbeats 1000000 in
theorem rcheck_any (r : Rg) (hr0 : r.Ok) (w : World) :
    Calls Tryd.prog 56 #[.agg r.cells] w fun e w' => e = .returned (errR (if chkR r then 0 else 1)) ∧ Below w.heap.size w w' := by
  obtain ⟨sz, de, av, us, la, pu⟩ := r
  by_cases h1 : 1 ≤ sz ∧ sz ≤ 256
  · obtain ⟨n, rfl⟩ := Int.eq_ofNat_of_zero_le (show 0 ≤ sz by omega)
    have ha := sizesI ⟨n, by omega⟩ (by show 1 ≤ n; omega)
    simp only at ha
    have hd := hr0.de
    have hv := hr0.av
    have hu := hr0.us
    simp only at hd hv hu
    clear hr0
    have l1 : decide ((n : Int) < 1) = false := by simp; omega
    have l2 : decide (256 < (n : Int)) = false := by simp; omega
    unfold chkR alR
    simp only
    generalize okSz (n : Int) = ob at ha ⊢
    obtain ⟨h11, h12⟩ := h1
    cases ob with
    | false =>
      have t3 : (bits .and .i64 (n : Int) ((n : Int) - 1) != 0) = true := by simp only [bne, ha]; rfl
      rw [Bool.false_and, show errR (if false = true then 0 else 1) = .iface 59 (.int .i64 1) from rfl]
      go_enter Tryd.func56, Tryd.ntmps56
      go_wp2_with (first | ((with_reducible refine bx_rp w.heap.size ⟨(n : Int), de, av, us, la, pu⟩ ?_ ?_ ?_); exact rfl; exact rfl; intro W hr hb hz; have fx := hr.cell))
      go_ret
      exact ⟨rfl, hb⟩
    | true =>
      have t3 : (bits .and .i64 (n : Int) ((n : Int) - 1) != 0) = false := by simp only [bne, ha]; rfl
      rw [Bool.true_and]
      by_cases d1 : de % 16 = 0
      · by_cases d2 : av % 2 = 0
        · by_cases d3 : us % 4 = 0
          · rw [show (decide (de % 16 = 0) && (decide (av % 2 = 0) && decide (us % 4 = 0))) = true by simp [d1, d2, d3], show errR (if true = true then 0 else 1) = .nilIface from rfl]
            have mde1 : (((de : Int) % 16) != 0) = false := by simp; omega
            have mde2 : ((((de % 16 : Nat)) : Int) != 0) = false := by simp; omega
            have mde3 : (((de : Int) % 16) == 0) = true := by simp; omega
            have mde4 : ((((de % 16 : Nat)) : Int) == 0) = true := by simp; omega
            have mav1 : (((av : Int) % 2) != 0) = false := by simp; omega
            have mav2 : ((((av % 2 : Nat)) : Int) != 0) = false := by simp; omega
            have mav3 : (((av : Int) % 2) == 0) = true := by simp; omega
            have mav4 : ((((av % 2 : Nat)) : Int) == 0) = true := by simp; omega
            have mus1 : (((us : Int) % 4) != 0) = false := by simp; omega
            have mus2 : ((((us % 4 : Nat)) : Int) != 0) = false := by simp; omega
            have mus3 : (((us : Int) % 4) == 0) = true := by simp; omega
            have mus4 : ((((us % 4 : Nat)) : Int) == 0) = true := by simp; omega
            clear d1 d2 d3
            go_enter Tryd.func56, Tryd.ntmps56
            go_wp2_with (first | ((with_reducible refine bx_rp w.heap.size ⟨(n : Int), de, av, us, la, pu⟩ ?_ ?_ ?_); exact rfl; exact rfl; intro W hr hb hz; have fx := hr.cell))
            go_ret
            exact ⟨rfl, hb⟩
          · rw [show (decide (de % 16 = 0) && (decide (av % 2 = 0) && decide (us % 4 = 0))) = false by simp [d3], show errR (if false = true then 0 else 1) = .iface 59 (.int .i64 1) from rfl]
            have mde1 : (((de : Int) % 16) != 0) = false := by simp; omega
            have mde2 : ((((de % 16 : Nat)) : Int) != 0) = false := by simp; omega
            have mde3 : (((de : Int) % 16) == 0) = true := by simp; omega
            have mde4 : ((((de % 16 : Nat)) : Int) == 0) = true := by simp; omega
            have mav1 : (((av : Int) % 2) != 0) = false := by simp; omega
            have mav2 : ((((av % 2 : Nat)) : Int) != 0) = false := by simp; omega
            have mav3 : (((av : Int) % 2) == 0) = true := by simp; omega
            have mav4 : ((((av % 2 : Nat)) : Int) == 0) = true := by simp; omega
            have mus1 : (((us : Int) % 4) != 0) = true := by simp; omega
            have mus2 : ((((us % 4 : Nat)) : Int) != 0) = true := by simp; omega
            have mus3 : (((us : Int) % 4) == 0) = false := by simp; omega
            have mus4 : ((((us % 4 : Nat)) : Int) == 0) = false := by simp; omega
            clear d1 d2 d3
            go_enter Tryd.func56, Tryd.ntmps56
            go_wp2_with (first | ((with_reducible refine bx_rp w.heap.size ⟨(n : Int), de, av, us, la, pu⟩ ?_ ?_ ?_); exact rfl; exact rfl; intro W hr hb hz; have fx := hr.cell))
            go_ret
            exact ⟨rfl, hb⟩
        · rw [show (decide (de % 16 = 0) && (decide (av % 2 = 0) && decide (us % 4 = 0))) = false by simp [d2], show errR (if false = true then 0 else 1) = .iface 59 (.int .i64 1) from rfl]
          have mde1 : (((de : Int) % 16) != 0) = false := by simp; omega
          have mde2 : ((((de % 16 : Nat)) : Int) != 0) = false := by simp; omega
          have mde3 : (((de : Int) % 16) == 0) = true := by simp; omega
          have mde4 : ((((de % 16 : Nat)) : Int) == 0) = true := by simp; omega
          have mav1 : (((av : Int) % 2) != 0) = true := by simp; omega
          have mav2 : ((((av % 2 : Nat)) : Int) != 0) = true := by simp; omega
          have mav3 : (((av : Int) % 2) == 0) = false := by simp; omega
          have mav4 : ((((av % 2 : Nat)) : Int) == 0) = false := by simp; omega
          clear d1 d2
          go_enter Tryd.func56, Tryd.ntmps56
          go_wp2_with (first | ((with_reducible refine bx_rp w.heap.size ⟨(n : Int), de, av, us, la, pu⟩ ?_ ?_ ?_); exact rfl; exact rfl; intro W hr hb hz; have fx := hr.cell))
          go_ret
          exact ⟨rfl, hb⟩
      · rw [show (decide (de % 16 = 0) && (decide (av % 2 = 0) && decide (us % 4 = 0))) = false by simp [d1], show errR (if false = true then 0 else 1) = .iface 59 (.int .i64 1) from rfl]
        have mde1 : (((de : Int) % 16) != 0) = true := by simp; omega
        have mde2 : ((((de % 16 : Nat)) : Int) != 0) = true := by simp; omega
        have mde3 : (((de : Int) % 16) == 0) = false := by simp; omega
        have mde4 : ((((de % 16 : Nat)) : Int) == 0) = false := by simp; omega
        clear d1
        go_enter Tryd.func56, Tryd.ntmps56
        go_wp2_with (first | ((with_reducible refine bx_rp w.heap.size ⟨(n : Int), de, av, us, la, pu⟩ ?_ ?_ ?_); exact rfl; exact rfl; intro W hr hb hz; have fx := hr.cell))
        go_ret
        exact ⟨rfl, hb⟩
  · have hf : chkR ⟨sz, de, av, us, la, pu⟩ = false := by unfold chkR; rw [okSz_far h1]; rfl
    rw [hf, show errR (if false = true then 0 else 1) = .iface 59 (.int .i64 1) from rfl]
    clear hf
    by_cases h2 : sz < 1
    · have l1 : decide (sz < 1) = true := by simpa using h2
      go_enter Tryd.func56, Tryd.ntmps56
      go_wp2_with (first | ((with_reducible refine bx_rp w.heap.size ⟨sz, de, av, us, la, pu⟩ ?_ ?_ ?_); exact rfl; exact rfl; intro W hr hb hz; have fx := hr.cell))
      go_ret
      exact ⟨rfl, hb⟩
    · have l1 : decide (sz < 1) = false := by simpa using h2
      have l2 : decide (256 < sz) = true := by simp; omega
      clear h1 h2
      go_enter Tryd.func56, Tryd.ntmps56
      go_wp2_with (first | ((with_reducible refine bx_rp w.heap.size ⟨sz, de, av, us, la, pu⟩ ?_ ?_ ?_); exact rfl; exact rfl; intro W hr hb hz; have fx := hr.cell))
      go_ret
      exact ⟨rfl, hb⟩
end Go.Proofs.YtbggkoahofnnjaaDoor
namespace Go.Proofs.YtbggkoahofnnjaaDoor
open Go.RowKit
set_option linter.unusedVariables false

attribute [local go_sem] V.at0 V.at1 V.at2 V.at3 V.at4 V.at5 V.at6 V.at7 V.at8 V.at9 V.at10 V.at11 V.at12 V.at13 V.at14 V.at15 V.at16 V.at17 V.at18 V.at19 V.at20 Qu.at0 Qu.at1 Qu.at2 Qu.at3 Qu.at4 Qu.at5 Qu.at6
def offV : Array Value := #[.int .u32 0, .int .u32 1]
theorem castV (a b : Nat) : ((a : Int) == (b : Int)) = (a == b) := by
  by_cases h : a = b
  · subst h; simp
  · rw [beq_false_of_ne h, beq_false_of_ne (by omega)]
variable {ops : Array Oper} {rest : List Oper} {dst : Option Tmp} {ty t2 : TypeId} {after : Array Edge} {a : Act} {x y : Operand} {gd : Option (Nat × Bool)} {pos : String} {S : World → Prop} {w : World} {Q : Exit → Act → World → Prop}
theorem p_live (n : Nat) (h : n < 4294967296) : (bits .and .u32 (n : Int) 76 == 12) = (n.testBit 2 && (n.testBit 3 && !n.testBit 6)) := by
  rw [← live_and n, show (76 : Int) = ((76 : Nat) : Int) from rfl, u32_and_nat n 76 h (by decide), show (12 : Int) = ((12 : Nat) : Int) from rfl, castV]
theorem p_or (n m : Nat) (h : n < 4294967296) (hm : m < 4294967296) : bits .or .u32 (n : Int) (m : Int) = ((n ||| m : Nat) : Int) := u32_or_nat n m h hm
set_option maxHeartbeats 1000000 in
theorem live_any (s : V) (ok : s.Ok) (w : World) :
    Calls Tryd.prog 27 #[.agg s.cells] w fun e w' => e = .returned (.bool (liveV s)) ∧ Below w.heap.size w w' := by
  have HX := hide (p_live s.st ok.st)
  go_enter Tryd.func27, Tryd.ntmps27
  go_wp2_with (first | ((with_reducible refine bx_vp w.heap.size s ?_ ?_ ?_); exact rfl; exact rfl; intro W hr hb hz; have fx := hr.cell))
  go_ret
  exact ⟨by unfold liveV; rw [← HX.out]; rfl, hb⟩

set_option maxHeartbeats 1000000 in
theorem fail_any (s : V) (ok : s.Ok) (w : World) :
    Calls Tryd.prog 30 #[.agg s.cells] w fun e w' => e = .returned (.agg (failV s).cells) ∧ Below w.heap.size w w' := by
  have HA := hide (p_or s.st 64 ok.st (by decide))
  have HB := hide (p_or s.ir 2 ok.ir (by decide))
  go_enter Tryd.func30, Tryd.ntmps30
  go_wp2_with (first | ((with_reducible refine bx_vp w.heap.size s ?_ ?_ ?_); exact rfl; exact rfl; intro W hr hb hz; have fx := hr.cell) | ((with_reducible refine al_vp (w.heap.size + 1) ?_ ?_); exact hz.out; intro W hq hb' hz'; replace hr := hr.bl (hz.out ▸ hb'); replace hb := hb.trans (hb'.mono (by omega)); replace hz := hz'; replace fx := hr.cell) | ((with_reducible refine ld_st w.heap.size _ _ hr ?_ ?_ ?_); exact rfl; exact rfl) | ((with_reducible refine ld_ir w.heap.size _ _ hr ?_ ?_ ?_); exact rfl; exact rfl) | ((with_reducible refine st_st w.heap.size _ (s.st ||| 64) _ hr ?_ ?_ ?_); exact rfl; exact congrArg (Value.int .u32) HA.out; intro W hnew ho; replace hq := hq.only ho (by omega); replace hr := hnew; replace hb := ho.bel _ _ (by omega) hb; (try clear fx)) | ((with_reducible refine st_ir w.heap.size _ (s.ir ||| 2) _ hr ?_ ?_ ?_); exact rfl; exact congrArg (Value.int .u32) HB.out; intro W hnew ho; replace hq := hq.only ho (by omega); replace hr := hnew; replace hb := ho.bel _ _ (by omega) hb; (try clear fx)) | ((with_reducible refine ld_vp w.heap.size _ hr ?_ ?_ ?_); exact rfl; exact rfl) | ((with_reducible refine st_vp (w.heap.size + 1) _ (failV s) hq ?_ ?_ ?_); exact rfl; exact rfl; intro W hnew ho; replace hr := hr.only ho (by omega); replace hq := hnew; replace hb := ho.bel _ _ (by omega) hb))
  refine bodyPost_ret (results_cell_row Tryd.results30 _ _ (w.heap.size + 1) _ _ _ _ rfl hq Tryd.underlying41 rfl size_vp) rfl ?_
  exact ⟨rfl, hb⟩

set_option maxHeartbeats 1000000 in
theorem used_any (s : V) (ok : s.Ok) (w : World) :
    Calls Tryd.prog 34 #[.agg s.cells] w fun e w' => e = .returned (.agg (usedV s).cells) ∧ Below w.heap.size w w' := by
  have HB := hide (p_or s.ir 1 ok.ir (by decide))
  go_enter Tryd.func34, Tryd.ntmps34
  go_wp2_with (first | ((with_reducible refine bx_vp w.heap.size s ?_ ?_ ?_); exact rfl; exact rfl; intro W hr hb hz; have fx := hr.cell) | ((with_reducible refine al_vp (w.heap.size + 1) ?_ ?_); exact hz.out; intro W hq hb' hz'; replace hr := hr.bl (hz.out ▸ hb'); replace hb := hb.trans (hb'.mono (by omega)); replace hz := hz'; replace fx := hr.cell) | ((with_reducible refine ld_ir w.heap.size _ _ hr ?_ ?_ ?_); exact rfl; exact rfl) | ((with_reducible refine st_ir w.heap.size _ (s.ir ||| 1) _ hr ?_ ?_ ?_); exact rfl; exact congrArg (Value.int .u32) HB.out; intro W hnew ho; replace hq := hq.only ho (by omega); replace hr := hnew; replace hb := ho.bel _ _ (by omega) hb; (try clear fx)) | ((with_reducible refine ld_vp w.heap.size _ hr ?_ ?_ ?_); exact rfl; exact rfl) | ((with_reducible refine st_vp (w.heap.size + 1) _ (usedV s) hq ?_ ?_ ?_); exact rfl; exact rfl; intro W hnew ho; replace hr := hr.only ho (by omega); replace hq := hnew; replace hb := ho.bel _ _ (by omega) hb))
  refine bodyPost_ret (results_cell_row Tryd.results34 _ _ (w.heap.size + 1) _ _ _ _ rfl hq Tryd.underlying41 rfl size_vp) rfl ?_
  exact ⟨rfl, hb⟩

end Go.Proofs.YtbggkoahofnnjaaDoor
namespace Go.Proofs.YtbggkoahofnnjaaDoor
open Go.RowKit
set_option linter.unusedVariables false

attribute [local go_sem] V.at0 V.at1 V.at2 V.at3 V.at4 V.at5 V.at6 V.at7 V.at8 V.at9 V.at10 V.at11 V.at12 V.at13 V.at14 V.at15 V.at16 V.at17 V.at18 V.at19 V.at20 Qu.at0 Qu.at1 Qu.at2 Qu.at3 Qu.at4 Qu.at5 Qu.at6
end Go.Proofs.YtbggkoahofnnjaaDoor
