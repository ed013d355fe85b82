/-
  Rings, parts and descriptors in blocks of their own: what is read of them, and what stores make of them.
-/
import Derived.Test.YtghpjibjhaomoaaGreatDoorJMeB
import Derived.Test.YtghpjibjhaomoaaGreatDoorJMeOps
import Derived.Deep.WholeRow
import Derived.RegionTactic
import Derived.Laws.ResultCell
import Derived.Deep.RegionHeld3
namespace Go.Proofs.YtghpjibjhaomoaaGreatDoor
open Go.RowKit
set_option linter.unusedVariables false

structure Rg where
  sz : Int
  de : Nat
  av : Nat
  us : Nat
  la : Nat
  pu : Nat
structure Rg.Ok (r : Rg) : Prop where
  sz0 : -9223372036854775808 ≤ r.sz
  sz1 : r.sz ≤ 9223372036854775807
  de : r.de < 4294967296
  av : r.av < 4294967296
  us : r.us < 4294967296
  la : r.la < 65536
  pu : r.pu < 65536
def zeroRg : Rg := ⟨0, 0, 0, 0, 0, 0⟩
structure Sg where
  at' : Nat
  n : Int
  wr : Bool
structure Sg.Ok (s : Sg) : Prop where
  at' : s.at' < 4294967296
  n0 : -9223372036854775808 ≤ s.n
  n1 : s.n ≤ 9223372036854775807
def zeroSg : Sg := ⟨0, 0, false⟩
def okSz (s : Int) : Bool := (s == 1) || (s == 2) || (s == 4) || (s == 8) || (s == 16) || (s == 32) || (s == 64) || (s == 128) || (s == 256)
def alR (r : Rg) : Bool := decide (r.de % 16 = 0) && (decide (r.av % 2 = 0) && decide (r.us % 4 = 0))
def chkR (r : Rg) : Bool := okSz r.sz && alR r
/-- A place of the bus, as memory knows it. -/
def plM (x : Nat) : Nat := if 2147483648 ≤ x then x - 2147483648 else x + 2147483648
/-- Are n bytes from the bus's place x on in a memory of p pages? -/
def plB (p x n : Nat) : Bool := decide (n = 0 ∨ plM x + n ≤ 4096 * p)
def t32 (x : Nat) : Nat := x % 4294967296
theorem plM_lt {x : Nat} (h : x < 4294967296) : plM x < 4294967296 := by unfold plM; split <;> omega
theorem plM_wrap (x : Nat) (h : x < 4294967296) : ((x : Int) - 2147483648) % 4294967296 = (plM x : Int) := by
  unfold plM; split <;> omega
theorem plM_al (x k : Nat) (hk : k = 1 ∨ k = 2 ∨ k = 4 ∨ k = 16) (h : x % k = 0) : plM x % k = 0 := by
  unfold plM; rcases hk with rfl | rfl | rfl | rfl <;> split <;> omega
theorem plB_in {p x n : Nat} (h : plB p x n = true) (hn : 0 < n) : plM x + n ≤ 4096 * p := by
  have := of_decide_eq_true h; omega
theorem plB_out {p x n : Nat} (h : plB p x n = false) : 4096 * p < plM x + n := by
  have := of_decide_eq_false h; omega
theorem okSz_cases {s : Int} (h : okSz s = true) : s = 1 ∨ s = 2 ∨ s = 4 ∨ s = 8 ∨ s = 16 ∨ s = 32 ∨ s = 64 ∨ s = 128 ∨ s = 256 := by
  simp only [okSz, Bool.or_eq_true, beq_iff_eq] at h
  omega
theorem chkR_sz {r : Rg} (h : chkR r = true) : ∃ n : Nat, r.sz = (n : Int) ∧ 1 ≤ n ∧ n ≤ 256 := by
  simp only [chkR, Bool.and_eq_true] at h
  have := okSz_cases h.1
  exact ⟨r.sz.toNat, by omega, by omega, by omega⟩
theorem chkR_al {r : Rg} (h : chkR r = true) : r.de % 16 = 0 ∧ r.av % 2 = 0 ∧ r.us % 4 = 0 := by
  simp only [chkR, alR, Bool.and_eq_true, decide_eq_true_eq] at h
  exact h.2
/-- Where the n-th of a table stands. -/
def slotN (r : Rg) (n : Nat) : Nat := n % r.sz.toNat
theorem slotN_lt {r : Rg} (h : chkR r = true) (n : Nat) : slotN r n < 256 := by
  obtain ⟨k, h1, h2, h3⟩ := chkR_sz h
  unfold slotN
  rw [h1, Int.toNat_natCast]
  have := Nat.mod_lt n (show 0 < k by omega)
  omega
/-- The sizes that may be, by their bits. -/
theorem sizes : ∀ n : Fin 257, 1 ≤ n.val → ((n.val &&& (n.val - 1)) == 0) = okSz (n.val : Int) := by decide +kernel
end Go.Proofs.YtghpjibjhaomoaaGreatDoor
namespace Go.Proofs.YtghpjibjhaomoaaGreatDoor
open Go.RowKit
set_option linter.unusedVariables false

def Rg.cells (s : Rg) : Array Value := #[.int .i64 s.sz, .int .u32 (s.de : Nat), .int .u32 (s.av : Nat), .int .u32 (s.us : Nat), .int .u16 (s.la : Nat), .int .u16 (s.pu : Nat)]
def Sg.cells (s : Sg) : Array Value := #[.int .u32 (s.at' : Nat), .int .i64 s.n, .bool s.wr]
/-- A descriptor's four words. -/
def dscV (g : Nat → Nat) : Array Value := #[.int .u32 (g 0 : Nat), .int .u32 (g 1 : Nat), .int .u32 (g 2 : Nat), .int .u32 (g 3 : Nat)]
def updN (g : Nat → Nat) (i v : Nat) : Nat → Nat := fun j => if j = i then v else g j
theorem Rg.at0 (s : Rg) : s.cells[0]? = some (.int .i64 s.sz) := rfl
theorem Rg.at1 (s : Rg) : s.cells[1]? = some (.int .u32 (s.de : Nat)) := rfl
theorem Rg.at2 (s : Rg) : s.cells[2]? = some (.int .u32 (s.av : Nat)) := rfl
theorem Rg.at3 (s : Rg) : s.cells[3]? = some (.int .u32 (s.us : Nat)) := rfl
theorem Rg.at4 (s : Rg) : s.cells[4]? = some (.int .u16 (s.la : Nat)) := rfl
theorem Rg.at5 (s : Rg) : s.cells[5]? = some (.int .u16 (s.pu : Nat)) := rfl
theorem Sg.at0 (s : Sg) : s.cells[0]? = some (.int .u32 (s.at' : Nat)) := rfl
theorem Sg.at1 (s : Sg) : s.cells[1]? = some (.int .i64 s.n) := rfl
theorem Sg.at2 (s : Sg) : s.cells[2]? = some (.bool s.wr) := rfl
theorem dsc_at0 (g : Nat → Nat) : (dscV g)[0]? = some (.int .u32 (g 0 : Nat)) := rfl
theorem dsc_at1 (g : Nat → Nat) : (dscV g)[1]? = some (.int .u32 (g 1 : Nat)) := rfl
theorem dsc_at2 (g : Nat → Nat) : (dscV g)[2]? = some (.int .u32 (g 2 : Nat)) := rfl
theorem dsc_at3 (g : Nat → Nat) : (dscV g)[3]? = some (.int .u32 (g 3 : Nat)) := rfl
theorem dsc_at (g : Nat → Nat) (i : Nat) (hi : i < 4) : (dscV g)[i]? = some (.int .u32 (g i : Nat)) := by
  rcases i with _ | _ | _ | _ | i
  all_goals first | rfl | omega
theorem dsc_set (g : Nat → Nat) (i v : Nat) (hi : i < 4) : (dscV g).setIfInBounds i (.int .u32 (v : Nat)) = dscV (updN g i v) := by
  rcases i with _ | _ | _ | _ | i
  all_goals first | rfl | omega
theorem size_u32i : (Tryz.prog.info? 22).map (·.size) = some 1 := by kernel_rfl
theorem size_u16i : (Tryz.prog.info? 23).map (·.size) = some 1 := by kernel_rfl
theorem size_i64i : (Tryz.prog.info? 3).map (·.size) = some 1 := by kernel_rfl
theorem size_boi : (Tryz.prog.info? 4).map (·.size) = some 1 := by kernel_rfl
theorem rg_one (s : Rg) : s.cells.all (·.oneCell') = true := by simp [Rg.cells, Value.oneCell']
theorem sg_one (s : Sg) : s.cells.all (·.oneCell') = true := by simp [Sg.cells, Value.oneCell']
theorem dsc_one (g : Nat → Nat) : (dscV g).all (·.oneCell') = true := by simp [dscV, Value.oneCell']
def errR (n : Nat) : Value := if n = 0 then .nilIface else .iface 84 (.int .i64 (n : Int))
variable {ops : Array Oper} {rest : List Oper} {dst : Option Tmp} {ty : TypeId} {pos : String} {after : Array Edge} {a : Act} {w : World} {Q : Exit → Act → World → Prop} {x y : Operand} {b : Nat} {S : World → Prop} {K : Act → World → Prop} {gd : Option (Nat × Bool)}
theorem op_load_cellg {P : Program} {t : TypeId} (b j : Nat) (hx : a.eval x = .pointer (some ⟨b, j, none⟩)) (cs : Array Value) (v : Value) (t' : TypeId) (hr : RowAt w b cs t') (hv : cs[j]? = some v) (d : TypeDesc) (hu : P.underlying t = some d) (hd : d.isRow = false)
    (hw : Region.wanted ⟨dst, .load t x, ty, pos, after, gd⟩ (yielded ops a.tmps) = true) (k : wpList P ops Q rest (a.put dst v) w) : wpList P ops Q (⟨dst, .load t x, ty, pos, after, gd⟩ :: rest) a w := by
  have hcell : w.cell? ⟨b, j, none⟩ = some v := (hr.cell j).trans hv
  have hrun : (loadVar t ⟨b, j, none⟩).run P w = .ok v w := by
    have hagg : (isAgg t).run P w = .ok false w := by
      unfold isAgg
      rw [Sem.run_bind, run_underlying hu w]
      cases d <;> simp_all
    simp [loadVar, Sem.run_bind, hagg, hcell]
  refine BigFrame.wpList_want hw fun K hK => ?_
  unfold Oper.wp execOp
  simp only [hx, Instr.loadAt, Instr.sureAddr, Sem.run_bind, Sem.run_pure, Result.andThen_ok, hrun]
  exact hK _ _ k
theorem size_rp : (Tryz.prog.info? 34).map (·.size) = some 6 := by kernel_rfl
theorem zero_rp (w : World) : (zeroValue 34).run Tryz.prog w = .ok (.agg zeroRg.cells) w :=
  (zero_of_info (P := Tryz.prog) (t := 34) (v := .agg zeroRg.cells) (n := 6) (by kernel_rfl)).1 w
theorem bx_rp (N : Nat) (h : Rg) (hN : w.heap.size = N) (hx : a.eval x = .agg h.cells)
    (k : ∀ W, RowAt W N h.cells 34 → Below N w W → Hid (W.heap.size = N + 1) → wpList Tryz.prog ops Q rest (a.put dst (.pointer (some ⟨N, 0, none⟩))) W) :
    wpList Tryz.prog ops Q (⟨dst, .box 34 x, ty, pos, after, none⟩ :: rest) a w := op_box N hN h.cells hx k
theorem al_rp (N : Nat) (hN : w.heap.size = N)
    (k : ∀ W, RowAt W N zeroRg.cells 34 → Below N w W → Hid (W.heap.size = N + 1) → wpList Tryz.prog ops Q rest (a.put dst (.pointer (some ⟨N, 0, none⟩))) W) :
    wpList Tryz.prog ops Q (⟨dst, .alloc 34, ty, pos, after, none⟩ :: rest) a w := op_alloc N hN zeroRg.cells zero_rp k
theorem ld_rp (b : Nat) (h : Rg) (hr : RowAt w b h.cells 34) (hx : a.eval x = .pointer (some ⟨b, 0, none⟩)) (hw : Region.wanted ⟨dst, .load 34 x, ty, pos, after, gd⟩ (yielded ops a.tmps) = true)
    (k : wpList Tryz.prog ops Q rest (a.put dst (.agg h.cells)) w) : wpList Tryz.prog ops Q (⟨dst, .load 34 x, ty, pos, after, gd⟩ :: rest) a w :=
  BigFrame.wpList_want hw fun K hK => wp_load_row 34 x rfl b hx _ h.cells (0, 0) _ hr Tryz.underlying34 rfl size_rp (hK _ _ k)
theorem st_rp (b : Nat) (old h : Rg) (hr : RowAt w b old.cells 34) (hx : a.eval x = .pointer (some ⟨b, 0, none⟩)) (hy : a.eval y = .agg h.cells)
    (k : ∀ W, RowAt W b h.cells 34 → Only b w W → wpList Tryz.prog ops Q rest (a.put dst undef) W) : wpList Tryz.prog ops Q (⟨dst, .store 34 x y, ty, pos, after, none⟩ :: rest) a w :=
  op_store b hx h.cells hy old.cells _ hr size_rp rfl (rg_one h) k
theorem y_rp (b : Nat) (h : Rg) (hS : ∀ V, S V → RowAt V b h.cells 34) (hx : a.eval x = .pointer (some ⟨b, 0, none⟩)) (hw : Region.wanted ⟨dst, .load 34 x, ty, pos, after, gd⟩ (yielded ops a.tmps) = true) :
    YieldsIf Tryz.prog ops S ⟨dst, .load 34 x, ty, pos, after, gd⟩ (.agg h.cells) a := by
  rcases y_load (ops := ops) (P := Tryz.prog) (t := 34) (dst := dst) (ty := ty) (after := after) (a := a) (x := x) (pos := pos) (S := S) b h.cells _ hS _ Tryz.underlying34 rfl size_rp hx with ⟨_, h2⟩ | ⟨h1, _⟩
  · exact .inl ⟨hw, fun V hV => h2 V hV⟩
  · simp [Region.wanted] at h1
theorem s_rp (b : Nat) (old h : Rg) (hr : RowAt w b old.cells 34) (hx : a.eval x = .pointer (some ⟨b, 0, none⟩)) (hy : a.eval y = .agg h.cells)
    (k : ∀ W, RowAt W b h.cells 34 → Only b w W → K (a.put dst undef) W) :
    Oper.wp Tryz.prog ⟨dst, .store 34 x y, ty, pos, after, none⟩ a w K Q :=
  s_store b hx h.cells hy old.cells _ hr size_rp rfl (rg_one h) k
theorem size_rr : (Tryz.prog.info? 25).map (·.size) = some 6 := by kernel_rfl
theorem zero_rr (w : World) : (zeroValue 25).run Tryz.prog w = .ok (.agg zeroRg.cells) w :=
  (zero_of_info (P := Tryz.prog) (t := 25) (v := .agg zeroRg.cells) (n := 6) (by kernel_rfl)).1 w
theorem bx_rr (N : Nat) (h : Rg) (hN : w.heap.size = N) (hx : a.eval x = .agg h.cells)
    (k : ∀ W, RowAt W N h.cells 25 → Below N w W → Hid (W.heap.size = N + 1) → wpList Tryz.prog ops Q rest (a.put dst (.pointer (some ⟨N, 0, none⟩))) W) :
    wpList Tryz.prog ops Q (⟨dst, .box 25 x, ty, pos, after, none⟩ :: rest) a w := op_box N hN h.cells hx k
theorem al_rr (N : Nat) (hN : w.heap.size = N)
    (k : ∀ W, RowAt W N zeroRg.cells 25 → Below N w W → Hid (W.heap.size = N + 1) → wpList Tryz.prog ops Q rest (a.put dst (.pointer (some ⟨N, 0, none⟩))) W) :
    wpList Tryz.prog ops Q (⟨dst, .alloc 25, ty, pos, after, none⟩ :: rest) a w := op_alloc N hN zeroRg.cells zero_rr k
theorem ld_rr (b : Nat) (h : Rg) (hr : RowAt w b h.cells 25) (hx : a.eval x = .pointer (some ⟨b, 0, none⟩)) (hw : Region.wanted ⟨dst, .load 25 x, ty, pos, after, gd⟩ (yielded ops a.tmps) = true)
    (k : wpList Tryz.prog ops Q rest (a.put dst (.agg h.cells)) w) : wpList Tryz.prog ops Q (⟨dst, .load 25 x, ty, pos, after, gd⟩ :: rest) a w :=
  BigFrame.wpList_want hw fun K hK => wp_load_row 25 x rfl b hx _ h.cells (0, 0) _ hr Tryz.underlying25 rfl size_rr (hK _ _ k)
theorem st_rr (b : Nat) (old h : Rg) (hr : RowAt w b old.cells 25) (hx : a.eval x = .pointer (some ⟨b, 0, none⟩)) (hy : a.eval y = .agg h.cells)
    (k : ∀ W, RowAt W b h.cells 25 → Only b w W → wpList Tryz.prog ops Q rest (a.put dst undef) W) : wpList Tryz.prog ops Q (⟨dst, .store 25 x y, ty, pos, after, none⟩ :: rest) a w :=
  op_store b hx h.cells hy old.cells _ hr size_rr rfl (rg_one h) k
theorem y_rr (b : Nat) (h : Rg) (hS : ∀ V, S V → RowAt V b h.cells 25) (hx : a.eval x = .pointer (some ⟨b, 0, none⟩)) (hw : Region.wanted ⟨dst, .load 25 x, ty, pos, after, gd⟩ (yielded ops a.tmps) = true) :
    YieldsIf Tryz.prog ops S ⟨dst, .load 25 x, ty, pos, after, gd⟩ (.agg h.cells) a := by
  rcases y_load (ops := ops) (P := Tryz.prog) (t := 25) (dst := dst) (ty := ty) (after := after) (a := a) (x := x) (pos := pos) (S := S) b h.cells _ hS _ Tryz.underlying25 rfl size_rr hx with ⟨_, h2⟩ | ⟨h1, _⟩
  · exact .inl ⟨hw, fun V hV => h2 V hV⟩
  · simp [Region.wanted] at h1
theorem s_rr (b : Nat) (old h : Rg) (hr : RowAt w b old.cells 25) (hx : a.eval x = .pointer (some ⟨b, 0, none⟩)) (hy : a.eval y = .agg h.cells)
    (k : ∀ W, RowAt W b h.cells 25 → Only b w W → K (a.put dst undef) W) :
    Oper.wp Tryz.prog ⟨dst, .store 25 x y, ty, pos, after, none⟩ a w K Q :=
  s_store b hx h.cells hy old.cells _ hr size_rr rfl (rg_one h) k
theorem size_sp : (Tryz.prog.info? 70).map (·.size) = some 3 := by kernel_rfl
theorem zero_sp (w : World) : (zeroValue 70).run Tryz.prog w = .ok (.agg zeroSg.cells) w :=
  (zero_of_info (P := Tryz.prog) (t := 70) (v := .agg zeroSg.cells) (n := 3) (by kernel_rfl)).1 w
theorem bx_sp (N : Nat) (h : Sg) (hN : w.heap.size = N) (hx : a.eval x = .agg h.cells)
    (k : ∀ W, RowAt W N h.cells 70 → Below N w W → Hid (W.heap.size = N + 1) → wpList Tryz.prog ops Q rest (a.put dst (.pointer (some ⟨N, 0, none⟩))) W) :
    wpList Tryz.prog ops Q (⟨dst, .box 70 x, ty, pos, after, none⟩ :: rest) a w := op_box N hN h.cells hx k
theorem al_sp (N : Nat) (hN : w.heap.size = N)
    (k : ∀ W, RowAt W N zeroSg.cells 70 → Below N w W → Hid (W.heap.size = N + 1) → wpList Tryz.prog ops Q rest (a.put dst (.pointer (some ⟨N, 0, none⟩))) W) :
    wpList Tryz.prog ops Q (⟨dst, .alloc 70, ty, pos, after, none⟩ :: rest) a w := op_alloc N hN zeroSg.cells zero_sp k
theorem ld_sp (b : Nat) (h : Sg) (hr : RowAt w b h.cells 70) (hx : a.eval x = .pointer (some ⟨b, 0, none⟩)) (hw : Region.wanted ⟨dst, .load 70 x, ty, pos, after, gd⟩ (yielded ops a.tmps) = true)
    (k : wpList Tryz.prog ops Q rest (a.put dst (.agg h.cells)) w) : wpList Tryz.prog ops Q (⟨dst, .load 70 x, ty, pos, after, gd⟩ :: rest) a w :=
  BigFrame.wpList_want hw fun K hK => wp_load_row 70 x rfl b hx _ h.cells (0, 0) _ hr Tryz.underlying70 rfl size_sp (hK _ _ k)
theorem st_sp (b : Nat) (old h : Sg) (hr : RowAt w b old.cells 70) (hx : a.eval x = .pointer (some ⟨b, 0, none⟩)) (hy : a.eval y = .agg h.cells)
    (k : ∀ W, RowAt W b h.cells 70 → Only b w W → wpList Tryz.prog ops Q rest (a.put dst undef) W) : wpList Tryz.prog ops Q (⟨dst, .store 70 x y, ty, pos, after, none⟩ :: rest) a w :=
  op_store b hx h.cells hy old.cells _ hr size_sp rfl (sg_one h) k
theorem y_sp (b : Nat) (h : Sg) (hS : ∀ V, S V → RowAt V b h.cells 70) (hx : a.eval x = .pointer (some ⟨b, 0, none⟩)) (hw : Region.wanted ⟨dst, .load 70 x, ty, pos, after, gd⟩ (yielded ops a.tmps) = true) :
    YieldsIf Tryz.prog ops S ⟨dst, .load 70 x, ty, pos, after, gd⟩ (.agg h.cells) a := by
  rcases y_load (ops := ops) (P := Tryz.prog) (t := 70) (dst := dst) (ty := ty) (after := after) (a := a) (x := x) (pos := pos) (S := S) b h.cells _ hS _ Tryz.underlying70 rfl size_sp hx with ⟨_, h2⟩ | ⟨h1, _⟩
  · exact .inl ⟨hw, fun V hV => h2 V hV⟩
  · simp [Region.wanted] at h1
theorem s_sp (b : Nat) (old h : Sg) (hr : RowAt w b old.cells 70) (hx : a.eval x = .pointer (some ⟨b, 0, none⟩)) (hy : a.eval y = .agg h.cells)
    (k : ∀ W, RowAt W b h.cells 70 → Only b w W → K (a.put dst undef) W) :
    Oper.wp Tryz.prog ⟨dst, .store 70 x y, ty, pos, after, none⟩ a w K Q :=
  s_store b hx h.cells hy old.cells _ hr size_sp rfl (sg_one h) k
theorem size_sr : (Tryz.prog.info? 100).map (·.size) = some 3 := by kernel_rfl
theorem zero_sr (w : World) : (zeroValue 100).run Tryz.prog w = .ok (.agg zeroSg.cells) w :=
  (zero_of_info (P := Tryz.prog) (t := 100) (v := .agg zeroSg.cells) (n := 3) (by kernel_rfl)).1 w
theorem bx_sr (N : Nat) (h : Sg) (hN : w.heap.size = N) (hx : a.eval x = .agg h.cells)
    (k : ∀ W, RowAt W N h.cells 100 → Below N w W → Hid (W.heap.size = N + 1) → wpList Tryz.prog ops Q rest (a.put dst (.pointer (some ⟨N, 0, none⟩))) W) :
    wpList Tryz.prog ops Q (⟨dst, .box 100 x, ty, pos, after, none⟩ :: rest) a w := op_box N hN h.cells hx k
theorem al_sr (N : Nat) (hN : w.heap.size = N)
    (k : ∀ W, RowAt W N zeroSg.cells 100 → Below N w W → Hid (W.heap.size = N + 1) → wpList Tryz.prog ops Q rest (a.put dst (.pointer (some ⟨N, 0, none⟩))) W) :
    wpList Tryz.prog ops Q (⟨dst, .alloc 100, ty, pos, after, none⟩ :: rest) a w := op_alloc N hN zeroSg.cells zero_sr k
theorem ld_sr (b : Nat) (h : Sg) (hr : RowAt w b h.cells 100) (hx : a.eval x = .pointer (some ⟨b, 0, none⟩)) (hw : Region.wanted ⟨dst, .load 100 x, ty, pos, after, gd⟩ (yielded ops a.tmps) = true)
    (k : wpList Tryz.prog ops Q rest (a.put dst (.agg h.cells)) w) : wpList Tryz.prog ops Q (⟨dst, .load 100 x, ty, pos, after, gd⟩ :: rest) a w :=
  BigFrame.wpList_want hw fun K hK => wp_load_row 100 x rfl b hx _ h.cells (0, 0) _ hr Tryz.underlying100 rfl size_sr (hK _ _ k)
theorem st_sr (b : Nat) (old h : Sg) (hr : RowAt w b old.cells 100) (hx : a.eval x = .pointer (some ⟨b, 0, none⟩)) (hy : a.eval y = .agg h.cells)
    (k : ∀ W, RowAt W b h.cells 100 → Only b w W → wpList Tryz.prog ops Q rest (a.put dst undef) W) : wpList Tryz.prog ops Q (⟨dst, .store 100 x y, ty, pos, after, none⟩ :: rest) a w :=
  op_store b hx h.cells hy old.cells _ hr size_sr rfl (sg_one h) k
theorem y_sr (b : Nat) (h : Sg) (hS : ∀ V, S V → RowAt V b h.cells 100) (hx : a.eval x = .pointer (some ⟨b, 0, none⟩)) (hw : Region.wanted ⟨dst, .load 100 x, ty, pos, after, gd⟩ (yielded ops a.tmps) = true) :
    YieldsIf Tryz.prog ops S ⟨dst, .load 100 x, ty, pos, after, gd⟩ (.agg h.cells) a := by
  rcases y_load (ops := ops) (P := Tryz.prog) (t := 100) (dst := dst) (ty := ty) (after := after) (a := a) (x := x) (pos := pos) (S := S) b h.cells _ hS _ Tryz.underlying100 rfl size_sr hx with ⟨_, h2⟩ | ⟨h1, _⟩
  · exact .inl ⟨hw, fun V hV => h2 V hV⟩
  · simp [Region.wanted] at h1
theorem s_sr (b : Nat) (old h : Sg) (hr : RowAt w b old.cells 100) (hx : a.eval x = .pointer (some ⟨b, 0, none⟩)) (hy : a.eval y = .agg h.cells)
    (k : ∀ W, RowAt W b h.cells 100 → Only b w W → K (a.put dst undef) W) :
    Oper.wp Tryz.prog ⟨dst, .store 100 x y, ty, pos, after, none⟩ a w K Q :=
  s_store b hx h.cells hy old.cells _ hr size_sr rfl (sg_one h) k
theorem size_dp : (Tryz.prog.info? 95).map (·.size) = some 4 := by kernel_rfl
theorem zero_dp (w : World) : (zeroValue 95).run Tryz.prog w = .ok (.agg (dscV (fun _ => 0))) w :=
  (zero_of_info (P := Tryz.prog) (t := 95) (v := .agg (dscV (fun _ => 0))) (n := 4) (by kernel_rfl)).1 w
theorem bx_dp (N : Nat) (h : (Nat → Nat)) (hN : w.heap.size = N) (hx : a.eval x = .agg (dscV h))
    (k : ∀ W, RowAt W N (dscV h) 95 → Below N w W → Hid (W.heap.size = N + 1) → wpList Tryz.prog ops Q rest (a.put dst (.pointer (some ⟨N, 0, none⟩))) W) :
    wpList Tryz.prog ops Q (⟨dst, .box 95 x, ty, pos, after, none⟩ :: rest) a w := op_box N hN (dscV h) hx k
theorem al_dp (N : Nat) (hN : w.heap.size = N)
    (k : ∀ W, RowAt W N (dscV (fun _ => 0)) 95 → Below N w W → Hid (W.heap.size = N + 1) → wpList Tryz.prog ops Q rest (a.put dst (.pointer (some ⟨N, 0, none⟩))) W) :
    wpList Tryz.prog ops Q (⟨dst, .alloc 95, ty, pos, after, none⟩ :: rest) a w := op_alloc N hN (dscV (fun _ => 0)) zero_dp k
theorem ld_dp (b : Nat) (h : (Nat → Nat)) (hr : RowAt w b (dscV h) 95) (hx : a.eval x = .pointer (some ⟨b, 0, none⟩)) (hw : Region.wanted ⟨dst, .load 95 x, ty, pos, after, gd⟩ (yielded ops a.tmps) = true)
    (k : wpList Tryz.prog ops Q rest (a.put dst (.agg (dscV h))) w) : wpList Tryz.prog ops Q (⟨dst, .load 95 x, ty, pos, after, gd⟩ :: rest) a w :=
  BigFrame.wpList_want hw fun K hK => wp_load_row 95 x rfl b hx _ (dscV h) (0, 0) _ hr Tryz.underlying95 rfl size_dp (hK _ _ k)
theorem st_dp (b : Nat) (old h : (Nat → Nat)) (hr : RowAt w b (dscV old) 95) (hx : a.eval x = .pointer (some ⟨b, 0, none⟩)) (hy : a.eval y = .agg (dscV h))
    (k : ∀ W, RowAt W b (dscV h) 95 → Only b w W → wpList Tryz.prog ops Q rest (a.put dst undef) W) : wpList Tryz.prog ops Q (⟨dst, .store 95 x y, ty, pos, after, none⟩ :: rest) a w :=
  op_store b hx (dscV h) hy (dscV old) _ hr size_dp rfl (dsc_one h) k
theorem y_dp (b : Nat) (h : (Nat → Nat)) (hS : ∀ V, S V → RowAt V b (dscV h) 95) (hx : a.eval x = .pointer (some ⟨b, 0, none⟩)) (hw : Region.wanted ⟨dst, .load 95 x, ty, pos, after, gd⟩ (yielded ops a.tmps) = true) :
    YieldsIf Tryz.prog ops S ⟨dst, .load 95 x, ty, pos, after, gd⟩ (.agg (dscV h)) a := by
  rcases y_load (ops := ops) (P := Tryz.prog) (t := 95) (dst := dst) (ty := ty) (after := after) (a := a) (x := x) (pos := pos) (S := S) b (dscV h) _ hS _ Tryz.underlying95 rfl size_dp hx with ⟨_, h2⟩ | ⟨h1, _⟩
  · exact .inl ⟨hw, fun V hV => h2 V hV⟩
  · simp [Region.wanted] at h1
theorem s_dp (b : Nat) (old h : (Nat → Nat)) (hr : RowAt w b (dscV old) 95) (hx : a.eval x = .pointer (some ⟨b, 0, none⟩)) (hy : a.eval y = .agg (dscV h))
    (k : ∀ W, RowAt W b (dscV h) 95 → Only b w W → K (a.put dst undef) W) :
    Oper.wp Tryz.prog ⟨dst, .store 95 x y, ty, pos, after, none⟩ a w K Q :=
  s_store b hx (dscV h) hy (dscV old) _ hr size_dp rfl (dsc_one h) k
theorem ld_rsz (b : Nat) (h : Rg) (t' : TypeId) (hr : RowAt w b h.cells t') (hx : a.eval x = .pointer (some ⟨b, 0, none⟩))
    (hw : Region.wanted ⟨dst, .load 3 x, ty, pos, after, gd⟩ (yielded ops a.tmps) = true) (k : wpList Tryz.prog ops Q rest (a.put dst (.int .i64 h.sz)) w) : wpList Tryz.prog ops Q (⟨dst, .load 3 x, ty, pos, after, gd⟩ :: rest) a w :=
  op_load_cellg b 0 hx h.cells _ _ hr rfl _ Tryz.underlying3 rfl hw k
theorem st_rsz (b : Nat) (h : Rg) (n : Int) (t' : TypeId) (hr : RowAt w b h.cells t') (hx : a.eval x = .pointer (some ⟨b, 0, none⟩)) (hy : a.eval y = .int .i64 n)
    (k : ∀ W, RowAt W b ({ h with sz := n } : Rg).cells t' → Only b w W → wpList Tryz.prog ops Q rest (a.put dst undef) W) : wpList Tryz.prog ops Q (⟨dst, .store 3 x y, ty, pos, after, none⟩ :: rest) a w :=
  op_store_cell b 0 hx _ hy h.cells _ _ hr size_i64i (by show 0 < 6; decide) rfl rfl k
theorem y_rsz (b : Nat) (h : Rg) (t' : TypeId) (hS : ∀ V, S V → RowAt V b h.cells t') (hx : a.eval x = .pointer (some ⟨b, 0, none⟩)) :
    YieldsIf Tryz.prog ops S ⟨dst, .load 3 x, ty, pos, after, none⟩ (.int .i64 h.sz) a := y_cell b 0 _ (fun V hV => ((hS V hV).cell 0).trans rfl) _ Tryz.underlying3 rfl hx
theorem ld_rde (b : Nat) (h : Rg) (t' : TypeId) (hr : RowAt w b h.cells t') (hx : a.eval x = .pointer (some ⟨b, 1, none⟩))
    (hw : Region.wanted ⟨dst, .load 22 x, ty, pos, after, gd⟩ (yielded ops a.tmps) = true) (k : wpList Tryz.prog ops Q rest (a.put dst (.int .u32 (h.de : Nat))) w) : wpList Tryz.prog ops Q (⟨dst, .load 22 x, ty, pos, after, gd⟩ :: rest) a w :=
  op_load_cellg b 1 hx h.cells _ _ hr rfl _ Tryz.underlying22 rfl hw k
theorem st_rde (b : Nat) (h : Rg) (n : Nat) (t' : TypeId) (hr : RowAt w b h.cells t') (hx : a.eval x = .pointer (some ⟨b, 1, none⟩)) (hy : a.eval y = .int .u32 (n : Nat))
    (k : ∀ W, RowAt W b ({ h with de := n } : Rg).cells t' → Only b w W → wpList Tryz.prog ops Q rest (a.put dst undef) W) : wpList Tryz.prog ops Q (⟨dst, .store 22 x y, ty, pos, after, none⟩ :: rest) a w :=
  op_store_cell b 1 hx _ hy h.cells _ _ hr size_u32i (by show 1 < 6; decide) rfl rfl k
theorem y_rde (b : Nat) (h : Rg) (t' : TypeId) (hS : ∀ V, S V → RowAt V b h.cells t') (hx : a.eval x = .pointer (some ⟨b, 1, none⟩)) :
    YieldsIf Tryz.prog ops S ⟨dst, .load 22 x, ty, pos, after, none⟩ (.int .u32 (h.de : Nat)) a := y_cell b 1 _ (fun V hV => ((hS V hV).cell 1).trans rfl) _ Tryz.underlying22 rfl hx
theorem ld_rav (b : Nat) (h : Rg) (t' : TypeId) (hr : RowAt w b h.cells t') (hx : a.eval x = .pointer (some ⟨b, 2, none⟩))
    (hw : Region.wanted ⟨dst, .load 22 x, ty, pos, after, gd⟩ (yielded ops a.tmps) = true) (k : wpList Tryz.prog ops Q rest (a.put dst (.int .u32 (h.av : Nat))) w) : wpList Tryz.prog ops Q (⟨dst, .load 22 x, ty, pos, after, gd⟩ :: rest) a w :=
  op_load_cellg b 2 hx h.cells _ _ hr rfl _ Tryz.underlying22 rfl hw k
theorem st_rav (b : Nat) (h : Rg) (n : Nat) (t' : TypeId) (hr : RowAt w b h.cells t') (hx : a.eval x = .pointer (some ⟨b, 2, none⟩)) (hy : a.eval y = .int .u32 (n : Nat))
    (k : ∀ W, RowAt W b ({ h with av := n } : Rg).cells t' → Only b w W → wpList Tryz.prog ops Q rest (a.put dst undef) W) : wpList Tryz.prog ops Q (⟨dst, .store 22 x y, ty, pos, after, none⟩ :: rest) a w :=
  op_store_cell b 2 hx _ hy h.cells _ _ hr size_u32i (by show 2 < 6; decide) rfl rfl k
theorem y_rav (b : Nat) (h : Rg) (t' : TypeId) (hS : ∀ V, S V → RowAt V b h.cells t') (hx : a.eval x = .pointer (some ⟨b, 2, none⟩)) :
    YieldsIf Tryz.prog ops S ⟨dst, .load 22 x, ty, pos, after, none⟩ (.int .u32 (h.av : Nat)) a := y_cell b 2 _ (fun V hV => ((hS V hV).cell 2).trans rfl) _ Tryz.underlying22 rfl hx
theorem ld_rus (b : Nat) (h : Rg) (t' : TypeId) (hr : RowAt w b h.cells t') (hx : a.eval x = .pointer (some ⟨b, 3, none⟩))
    (hw : Region.wanted ⟨dst, .load 22 x, ty, pos, after, gd⟩ (yielded ops a.tmps) = true) (k : wpList Tryz.prog ops Q rest (a.put dst (.int .u32 (h.us : Nat))) w) : wpList Tryz.prog ops Q (⟨dst, .load 22 x, ty, pos, after, gd⟩ :: rest) a w :=
  op_load_cellg b 3 hx h.cells _ _ hr rfl _ Tryz.underlying22 rfl hw k
theorem st_rus (b : Nat) (h : Rg) (n : Nat) (t' : TypeId) (hr : RowAt w b h.cells t') (hx : a.eval x = .pointer (some ⟨b, 3, none⟩)) (hy : a.eval y = .int .u32 (n : Nat))
    (k : ∀ W, RowAt W b ({ h with us := n } : Rg).cells t' → Only b w W → wpList Tryz.prog ops Q rest (a.put dst undef) W) : wpList Tryz.prog ops Q (⟨dst, .store 22 x y, ty, pos, after, none⟩ :: rest) a w :=
  op_store_cell b 3 hx _ hy h.cells _ _ hr size_u32i (by show 3 < 6; decide) rfl rfl k
theorem y_rus (b : Nat) (h : Rg) (t' : TypeId) (hS : ∀ V, S V → RowAt V b h.cells t') (hx : a.eval x = .pointer (some ⟨b, 3, none⟩)) :
    YieldsIf Tryz.prog ops S ⟨dst, .load 22 x, ty, pos, after, none⟩ (.int .u32 (h.us : Nat)) a := y_cell b 3 _ (fun V hV => ((hS V hV).cell 3).trans rfl) _ Tryz.underlying22 rfl hx
theorem ld_rla (b : Nat) (h : Rg) (t' : TypeId) (hr : RowAt w b h.cells t') (hx : a.eval x = .pointer (some ⟨b, 4, none⟩))
    (hw : Region.wanted ⟨dst, .load 23 x, ty, pos, after, gd⟩ (yielded ops a.tmps) = true) (k : wpList Tryz.prog ops Q rest (a.put dst (.int .u16 (h.la : Nat))) w) : wpList Tryz.prog ops Q (⟨dst, .load 23 x, ty, pos, after, gd⟩ :: rest) a w :=
  op_load_cellg b 4 hx h.cells _ _ hr rfl _ Tryz.underlying23 rfl hw k
theorem st_rla (b : Nat) (h : Rg) (n : Nat) (t' : TypeId) (hr : RowAt w b h.cells t') (hx : a.eval x = .pointer (some ⟨b, 4, none⟩)) (hy : a.eval y = .int .u16 (n : Nat))
    (k : ∀ W, RowAt W b ({ h with la := n } : Rg).cells t' → Only b w W → wpList Tryz.prog ops Q rest (a.put dst undef) W) : wpList Tryz.prog ops Q (⟨dst, .store 23 x y, ty, pos, after, none⟩ :: rest) a w :=
  op_store_cell b 4 hx _ hy h.cells _ _ hr size_u16i (by show 4 < 6; decide) rfl rfl k
theorem y_rla (b : Nat) (h : Rg) (t' : TypeId) (hS : ∀ V, S V → RowAt V b h.cells t') (hx : a.eval x = .pointer (some ⟨b, 4, none⟩)) :
    YieldsIf Tryz.prog ops S ⟨dst, .load 23 x, ty, pos, after, none⟩ (.int .u16 (h.la : Nat)) a := y_cell b 4 _ (fun V hV => ((hS V hV).cell 4).trans rfl) _ Tryz.underlying23 rfl hx
theorem ld_rpu (b : Nat) (h : Rg) (t' : TypeId) (hr : RowAt w b h.cells t') (hx : a.eval x = .pointer (some ⟨b, 5, none⟩))
    (hw : Region.wanted ⟨dst, .load 23 x, ty, pos, after, gd⟩ (yielded ops a.tmps) = true) (k : wpList Tryz.prog ops Q rest (a.put dst (.int .u16 (h.pu : Nat))) w) : wpList Tryz.prog ops Q (⟨dst, .load 23 x, ty, pos, after, gd⟩ :: rest) a w :=
  op_load_cellg b 5 hx h.cells _ _ hr rfl _ Tryz.underlying23 rfl hw k
theorem st_rpu (b : Nat) (h : Rg) (n : Nat) (t' : TypeId) (hr : RowAt w b h.cells t') (hx : a.eval x = .pointer (some ⟨b, 5, none⟩)) (hy : a.eval y = .int .u16 (n : Nat))
    (k : ∀ W, RowAt W b ({ h with pu := n } : Rg).cells t' → Only b w W → wpList Tryz.prog ops Q rest (a.put dst undef) W) : wpList Tryz.prog ops Q (⟨dst, .store 23 x y, ty, pos, after, none⟩ :: rest) a w :=
  op_store_cell b 5 hx _ hy h.cells _ _ hr size_u16i (by show 5 < 6; decide) rfl rfl k
theorem y_rpu (b : Nat) (h : Rg) (t' : TypeId) (hS : ∀ V, S V → RowAt V b h.cells t') (hx : a.eval x = .pointer (some ⟨b, 5, none⟩)) :
    YieldsIf Tryz.prog ops S ⟨dst, .load 23 x, ty, pos, after, none⟩ (.int .u16 (h.pu : Nat)) a := y_cell b 5 _ (fun V hV => ((hS V hV).cell 5).trans rfl) _ Tryz.underlying23 rfl hx
theorem ld_sat (b : Nat) (h : Sg) (t' : TypeId) (hr : RowAt w b h.cells t') (hx : a.eval x = .pointer (some ⟨b, 0, none⟩))
    (hw : Region.wanted ⟨dst, .load 22 x, ty, pos, after, gd⟩ (yielded ops a.tmps) = true) (k : wpList Tryz.prog ops Q rest (a.put dst (.int .u32 (h.at' : Nat))) w) : wpList Tryz.prog ops Q (⟨dst, .load 22 x, ty, pos, after, gd⟩ :: rest) a w :=
  op_load_cellg b 0 hx h.cells _ _ hr rfl _ Tryz.underlying22 rfl hw k
theorem st_sat (b : Nat) (h : Sg) (n : Nat) (t' : TypeId) (hr : RowAt w b h.cells t') (hx : a.eval x = .pointer (some ⟨b, 0, none⟩)) (hy : a.eval y = .int .u32 (n : Nat))
    (k : ∀ W, RowAt W b ({ h with at' := n } : Sg).cells t' → Only b w W → wpList Tryz.prog ops Q rest (a.put dst undef) W) : wpList Tryz.prog ops Q (⟨dst, .store 22 x y, ty, pos, after, none⟩ :: rest) a w :=
  op_store_cell b 0 hx _ hy h.cells _ _ hr size_u32i (by show 0 < 3; decide) rfl rfl k
theorem y_sat (b : Nat) (h : Sg) (t' : TypeId) (hS : ∀ V, S V → RowAt V b h.cells t') (hx : a.eval x = .pointer (some ⟨b, 0, none⟩)) :
    YieldsIf Tryz.prog ops S ⟨dst, .load 22 x, ty, pos, after, none⟩ (.int .u32 (h.at' : Nat)) a := y_cell b 0 _ (fun V hV => ((hS V hV).cell 0).trans rfl) _ Tryz.underlying22 rfl hx
theorem ld_sn (b : Nat) (h : Sg) (t' : TypeId) (hr : RowAt w b h.cells t') (hx : a.eval x = .pointer (some ⟨b, 1, none⟩))
    (hw : Region.wanted ⟨dst, .load 3 x, ty, pos, after, gd⟩ (yielded ops a.tmps) = true) (k : wpList Tryz.prog ops Q rest (a.put dst (.int .i64 h.n)) w) : wpList Tryz.prog ops Q (⟨dst, .load 3 x, ty, pos, after, gd⟩ :: rest) a w :=
  op_load_cellg b 1 hx h.cells _ _ hr rfl _ Tryz.underlying3 rfl hw k
theorem st_sn (b : Nat) (h : Sg) (n : Int) (t' : TypeId) (hr : RowAt w b h.cells t') (hx : a.eval x = .pointer (some ⟨b, 1, none⟩)) (hy : a.eval y = .int .i64 n)
    (k : ∀ W, RowAt W b ({ h with n := n } : Sg).cells t' → Only b w W → wpList Tryz.prog ops Q rest (a.put dst undef) W) : wpList Tryz.prog ops Q (⟨dst, .store 3 x y, ty, pos, after, none⟩ :: rest) a w :=
  op_store_cell b 1 hx _ hy h.cells _ _ hr size_i64i (by show 1 < 3; decide) rfl rfl k
theorem y_sn (b : Nat) (h : Sg) (t' : TypeId) (hS : ∀ V, S V → RowAt V b h.cells t') (hx : a.eval x = .pointer (some ⟨b, 1, none⟩)) :
    YieldsIf Tryz.prog ops S ⟨dst, .load 3 x, ty, pos, after, none⟩ (.int .i64 h.n) a := y_cell b 1 _ (fun V hV => ((hS V hV).cell 1).trans rfl) _ Tryz.underlying3 rfl hx
theorem ld_swr (b : Nat) (h : Sg) (t' : TypeId) (hr : RowAt w b h.cells t') (hx : a.eval x = .pointer (some ⟨b, 2, none⟩))
    (hw : Region.wanted ⟨dst, .load 4 x, ty, pos, after, gd⟩ (yielded ops a.tmps) = true) (k : wpList Tryz.prog ops Q rest (a.put dst (.bool h.wr)) w) : wpList Tryz.prog ops Q (⟨dst, .load 4 x, ty, pos, after, gd⟩ :: rest) a w :=
  op_load_cellg b 2 hx h.cells _ _ hr rfl _ Tryz.underlying4 rfl hw k
theorem st_swr (b : Nat) (h : Sg) (n : Bool) (t' : TypeId) (hr : RowAt w b h.cells t') (hx : a.eval x = .pointer (some ⟨b, 2, none⟩)) (hy : a.eval y = .bool n)
    (k : ∀ W, RowAt W b ({ h with wr := n } : Sg).cells t' → Only b w W → wpList Tryz.prog ops Q rest (a.put dst undef) W) : wpList Tryz.prog ops Q (⟨dst, .store 4 x y, ty, pos, after, none⟩ :: rest) a w :=
  op_store_cell b 2 hx _ hy h.cells _ _ hr size_boi (by show 2 < 3; decide) rfl rfl k
theorem y_swr (b : Nat) (h : Sg) (t' : TypeId) (hS : ∀ V, S V → RowAt V b h.cells t') (hx : a.eval x = .pointer (some ⟨b, 2, none⟩)) :
    YieldsIf Tryz.prog ops S ⟨dst, .load 4 x, ty, pos, after, none⟩ (.bool h.wr) a := y_cell b 2 _ (fun V hV => ((hS V hV).cell 2).trans rfl) _ Tryz.underlying4 rfl hx
theorem st_di (b i : Nat) (h : Nat → Nat) (v : Nat) (hi : i < 4) (hr : RowAt w b (dscV h) 95) (hx : a.eval x = .pointer (some ⟨b, i, none⟩)) (hy : a.eval y = .int .u32 (v : Nat))
    (k : ∀ W, RowAt W b (dscV (updN h i v)) 95 → Only b w W → wpList Tryz.prog ops Q rest (a.put dst undef) W) : wpList Tryz.prog ops Q (⟨dst, .store 22 x y, ty, pos, after, none⟩ :: rest) a w :=
  op_store_cell b i hx _ hy (dscV h) _ _ hr size_u32i (by show i < 4; exact hi) rfl (dsc_set h i v hi) k
theorem y_dc (b i : Nat) (g : Nat → Nat) (hi : i < 4) (t' : TypeId) (hS : ∀ V, S V → RowAt V b (dscV g) t') (hx : a.eval x = .pointer (some ⟨b, i, none⟩)) :
    YieldsIf Tryz.prog ops S ⟨dst, .load 22 x, ty, pos, after, none⟩ (.int .u32 (g i : Nat)) a := y_cell b i _ (fun V hV => ((hS V hV).cell i).trans (dsc_at g i hi)) _ Tryz.underlying22 rfl hx
theorem results_cell_u {P : Program} {fn : Func} {p u : Tmp} {ty : TypeId} (h : fn.results = #[.cell p ty, .tmp u]) (tmps : Array Value) (w : World) (g : Nat) (t : TypeId) (cs : Array Value) (d : TypeDesc)
    (hp : tmps.getD p undef = .pointer (some ⟨g, 0, none⟩)) (hg : RowAt w g cs t) (hu : P.underlying ty = some d) (hd : d.isRow = true) (hi : (P.info? ty).map (·.size) = some cs.size) :
    (results fn tmps).run P w = .ok (.tuple #[.agg cs, tmps.getD u undef]) w := by
  have e : tmps[p]?.getD undef = .pointer (some ⟨g, 0, none⟩) := by simpa using hp
  have l := run_loadVar_row w g t ty cs (0, 0) d hg hu (by cases d <;> first | rfl | cases hd) hi
  simp [results, h, e, asAddr, l]
theorem results_cell_uuu {P : Program} {fn : Func} {p u v z : Tmp} {ty : TypeId} (h : fn.results = #[.cell p ty, .tmp u, .tmp v, .tmp z]) (tmps : Array Value) (w : World) (g : Nat) (t : TypeId) (cs : Array Value) (d : TypeDesc)
    (hp : tmps.getD p undef = .pointer (some ⟨g, 0, none⟩)) (hg : RowAt w g cs t) (hu : P.underlying ty = some d) (hd : d.isRow = true) (hi : (P.info? ty).map (·.size) = some cs.size) :
    (results fn tmps).run P w = .ok (.tuple #[.agg cs, tmps.getD u undef, tmps.getD v undef, tmps.getD z undef]) w := by
  have e : tmps[p]?.getD undef = .pointer (some ⟨g, 0, none⟩) := by simpa using hp
  have l := run_loadVar_row w g t ty cs (0, 0) d hg hu (by cases d <;> first | rfl | cases hd) hi
  simp [results, h, e, asAddr, l]
end Go.Proofs.YtghpjibjhaomoaaGreatDoor
