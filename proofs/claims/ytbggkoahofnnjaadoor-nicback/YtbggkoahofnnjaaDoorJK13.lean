/-
  Rings, parts and descriptors in blocks of their own: what is read of them, and what stores make of them.
-/
import Derived.Test.YtbggkoahofnnjaaDoorJK12
import Derived.Test.YtbggkoahofnnjaaDoorJK7
import Derived.Deep.WholeRow
import Derived.RegionTactic
import Derived.Laws.ResultCell
import Derived.Deep.RegionHeld3
import Derived.Test.YtbggkoahofnnjaaDoorJK8
namespace Go.Proofs.YtbggkoahofnnjaaDoor
open Go.RowKit
set_option linter.unusedVariables false

/-- A descriptor's four words. -/
def dscV (g : Nat → Nat) : Array Value := #[.int .u32 (g 0 : Nat), .int .u32 (g 1 : Nat), .int .u32 (g 2 : Nat), .int .u32 (g 3 : Nat)]
def updN (g : Nat → Nat) (i v : Nat) : Nat → Nat := fun j => if j = i then v else g j
theorem Sg.at0 (s : Sg) : s.cells[0]? = some (.int .u32 (s.at' : Nat)) := rfl
theorem Sg.at1 (s : Sg) : s.cells[1]? = some (.int .i64 s.n) := rfl
theorem Sg.at2 (s : Sg) : s.cells[2]? = some (.bool s.wr) := rfl
theorem dsc_at0 (g : Nat → Nat) : (dscV g)[0]? = some (.int .u32 (g 0 : Nat)) := rfl
theorem dsc_at1 (g : Nat → Nat) : (dscV g)[1]? = some (.int .u32 (g 1 : Nat)) := rfl
theorem dsc_at2 (g : Nat → Nat) : (dscV g)[2]? = some (.int .u32 (g 2 : Nat)) := rfl
theorem dsc_at3 (g : Nat → Nat) : (dscV g)[3]? = some (.int .u32 (g 3 : Nat)) := rfl
theorem dsc_at (g : Nat → Nat) (i : Nat) (hi : i < 4) : (dscV g)[i]? = some (.int .u32 (g i : Nat)) := by
  rcases i with _ | _ | _ | _ | i
  all_goals first | rfl | omega
theorem dsc_set (g : Nat → Nat) (i v : Nat) (hi : i < 4) : (dscV g).setIfInBounds i (.int .u32 (v : Nat)) = dscV (updN g i v) := by
  rcases i with _ | _ | _ | _ | i
  all_goals first | rfl | omega
theorem sg_one (s : Sg) : s.cells.all (·.oneCell') = true := by simp [Sg.cells, Value.oneCell']
theorem dsc_one (g : Nat → Nat) : (dscV g).all (·.oneCell') = true := by simp [dscV, Value.oneCell']
variable {ops : Array Oper} {rest : List Oper} {dst : Option Tmp} {ty : TypeId} {pos : String} {after : Array Edge} {a : Act} {w : World} {Q : Exit → Act → World → Prop} {x y : Operand} {b : Nat} {S : World → Prop} {K : Act → World → Prop} {gd : Option (Nat × Bool)}
theorem size_sp : (Tryd.prog.info? 104).map (·.size) = some 3 := by kernel_rfl
theorem zero_sp (w : World) : (zeroValue 104).run Tryd.prog w = .ok (.agg zeroSg.cells) w :=
  (zero_of_info (P := Tryd.prog) (t := 104) (v := .agg zeroSg.cells) (n := 3) (by kernel_rfl)).1 w
theorem bx_sp (N : Nat) (h : Sg) (hN : w.heap.size = N) (hx : a.eval x = .agg h.cells)
    (k : ∀ W, RowAt W N h.cells 104 → Below N w W → Hid (W.heap.size = N + 1) → wpList Tryd.prog ops Q rest (a.put dst (.pointer (some ⟨N, 0, none⟩))) W) :
    wpList Tryd.prog ops Q (⟨dst, .box 104 x, ty, pos, after, none⟩ :: rest) a w := op_box N hN h.cells hx k
theorem al_sp (N : Nat) (hN : w.heap.size = N)
    (k : ∀ W, RowAt W N zeroSg.cells 104 → Below N w W → Hid (W.heap.size = N + 1) → wpList Tryd.prog ops Q rest (a.put dst (.pointer (some ⟨N, 0, none⟩))) W) :
    wpList Tryd.prog ops Q (⟨dst, .alloc 104, ty, pos, after, none⟩ :: rest) a w := op_alloc N hN zeroSg.cells zero_sp k
theorem ld_sp (b : Nat) (h : Sg) (hr : RowAt w b h.cells 104) (hx : a.eval x = .pointer (some ⟨b, 0, none⟩)) (hw : Region.wanted ⟨dst, .load 104 x, ty, pos, after, gd⟩ (yielded ops a.tmps) = true)
    (k : wpList Tryd.prog ops Q rest (a.put dst (.agg h.cells)) w) : wpList Tryd.prog ops Q (⟨dst, .load 104 x, ty, pos, after, gd⟩ :: rest) a w :=
  BigFrame.wpList_want hw fun K hK => wp_load_row 104 x rfl b hx _ h.cells (0, 0) _ hr Tryd.underlying104 rfl size_sp (hK _ _ k)
theorem st_sp (b : Nat) (old h : Sg) (hr : RowAt w b old.cells 104) (hx : a.eval x = .pointer (some ⟨b, 0, none⟩)) (hy : a.eval y = .agg h.cells)
    (k : ∀ W, RowAt W b h.cells 104 → Only b w W → wpList Tryd.prog ops Q rest (a.put dst undef) W) : wpList Tryd.prog ops Q (⟨dst, .store 104 x y, ty, pos, after, none⟩ :: rest) a w :=
  op_store b hx h.cells hy old.cells _ hr size_sp rfl (sg_one h) k
theorem size_dp : (Tryd.prog.info? 125).map (·.size) = some 4 := by kernel_rfl
theorem zero_dp (w : World) : (zeroValue 125).run Tryd.prog w = .ok (.agg (dscV (fun _ => 0))) w :=
  (zero_of_info (P := Tryd.prog) (t := 125) (v := .agg (dscV (fun _ => 0))) (n := 4) (by kernel_rfl)).1 w
theorem bx_dp (N : Nat) (h : (Nat → Nat)) (hN : w.heap.size = N) (hx : a.eval x = .agg (dscV h))
    (k : ∀ W, RowAt W N (dscV h) 125 → Below N w W → Hid (W.heap.size = N + 1) → wpList Tryd.prog ops Q rest (a.put dst (.pointer (some ⟨N, 0, none⟩))) W) :
    wpList Tryd.prog ops Q (⟨dst, .box 125 x, ty, pos, after, none⟩ :: rest) a w := op_box N hN (dscV h) hx k
theorem al_dp (N : Nat) (hN : w.heap.size = N)
    (k : ∀ W, RowAt W N (dscV (fun _ => 0)) 125 → Below N w W → Hid (W.heap.size = N + 1) → wpList Tryd.prog ops Q rest (a.put dst (.pointer (some ⟨N, 0, none⟩))) W) :
    wpList Tryd.prog ops Q (⟨dst, .alloc 125, ty, pos, after, none⟩ :: rest) a w := op_alloc N hN (dscV (fun _ => 0)) zero_dp k
theorem ld_dp (b : Nat) (h : (Nat → Nat)) (hr : RowAt w b (dscV h) 125) (hx : a.eval x = .pointer (some ⟨b, 0, none⟩)) (hw : Region.wanted ⟨dst, .load 125 x, ty, pos, after, gd⟩ (yielded ops a.tmps) = true)
    (k : wpList Tryd.prog ops Q rest (a.put dst (.agg (dscV h))) w) : wpList Tryd.prog ops Q (⟨dst, .load 125 x, ty, pos, after, gd⟩ :: rest) a w :=
  BigFrame.wpList_want hw fun K hK => wp_load_row 125 x rfl b hx _ (dscV h) (0, 0) _ hr Tryd.underlying125 rfl size_dp (hK _ _ k)
theorem st_dp (b : Nat) (old h : (Nat → Nat)) (hr : RowAt w b (dscV old) 125) (hx : a.eval x = .pointer (some ⟨b, 0, none⟩)) (hy : a.eval y = .agg (dscV h))
    (k : ∀ W, RowAt W b (dscV h) 125 → Only b w W → wpList Tryd.prog ops Q rest (a.put dst undef) W) : wpList Tryd.prog ops Q (⟨dst, .store 125 x y, ty, pos, after, none⟩ :: rest) a w :=
  op_store b hx (dscV h) hy (dscV old) _ hr size_dp rfl (dsc_one h) k
theorem y_dp (b : Nat) (h : (Nat → Nat)) (hS : ∀ V, S V → RowAt V b (dscV h) 125) (hx : a.eval x = .pointer (some ⟨b, 0, none⟩)) (hw : Region.wanted ⟨dst, .load 125 x, ty, pos, after, gd⟩ (yielded ops a.tmps) = true) :
    YieldsIf Tryd.prog ops S ⟨dst, .load 125 x, ty, pos, after, gd⟩ (.agg (dscV h)) a := by
  rcases y_load (ops := ops) (P := Tryd.prog) (t := 125) (dst := dst) (ty := ty) (after := after) (a := a) (x := x) (pos := pos) (S := S) b (dscV h) _ hS _ Tryd.underlying125 rfl size_dp hx with ⟨_, h2⟩ | ⟨h1, _⟩
  · exact .inl ⟨hw, fun V hV => h2 V hV⟩
  · simp [Region.wanted] at h1
theorem ld_rsz (b : Nat) (h : Rg) (t' : TypeId) (hr : RowAt w b h.cells t') (hx : a.eval x = .pointer (some ⟨b, 0, none⟩))
    (hw : Region.wanted ⟨dst, .load 3 x, ty, pos, after, gd⟩ (yielded ops a.tmps) = true) (k : wpList Tryd.prog ops Q rest (a.put dst (.int .i64 h.sz)) w) : wpList Tryd.prog ops Q (⟨dst, .load 3 x, ty, pos, after, gd⟩ :: rest) a w :=
  op_load_cellg b 0 hx h.cells _ _ hr rfl _ Tryd.underlying3 rfl hw k
theorem ld_rde (b : Nat) (h : Rg) (t' : TypeId) (hr : RowAt w b h.cells t') (hx : a.eval x = .pointer (some ⟨b, 1, none⟩))
    (hw : Region.wanted ⟨dst, .load 24 x, ty, pos, after, gd⟩ (yielded ops a.tmps) = true) (k : wpList Tryd.prog ops Q rest (a.put dst (.int .u32 (h.de : Nat))) w) : wpList Tryd.prog ops Q (⟨dst, .load 24 x, ty, pos, after, gd⟩ :: rest) a w :=
  op_load_cellg b 1 hx h.cells _ _ hr rfl _ Tryd.underlying24 rfl hw k
theorem ld_rav (b : Nat) (h : Rg) (t' : TypeId) (hr : RowAt w b h.cells t') (hx : a.eval x = .pointer (some ⟨b, 2, none⟩))
    (hw : Region.wanted ⟨dst, .load 24 x, ty, pos, after, gd⟩ (yielded ops a.tmps) = true) (k : wpList Tryd.prog ops Q rest (a.put dst (.int .u32 (h.av : Nat))) w) : wpList Tryd.prog ops Q (⟨dst, .load 24 x, ty, pos, after, gd⟩ :: rest) a w :=
  op_load_cellg b 2 hx h.cells _ _ hr rfl _ Tryd.underlying24 rfl hw k
theorem y_rav (b : Nat) (h : Rg) (t' : TypeId) (hS : ∀ V, S V → RowAt V b h.cells t') (hx : a.eval x = .pointer (some ⟨b, 2, none⟩)) :
    YieldsIf Tryd.prog ops S ⟨dst, .load 24 x, ty, pos, after, none⟩ (.int .u32 (h.av : Nat)) a := y_cell b 2 _ (fun V hV => ((hS V hV).cell 2).trans rfl) _ Tryd.underlying24 rfl hx
theorem ld_rus (b : Nat) (h : Rg) (t' : TypeId) (hr : RowAt w b h.cells t') (hx : a.eval x = .pointer (some ⟨b, 3, none⟩))
    (hw : Region.wanted ⟨dst, .load 24 x, ty, pos, after, gd⟩ (yielded ops a.tmps) = true) (k : wpList Tryd.prog ops Q rest (a.put dst (.int .u32 (h.us : Nat))) w) : wpList Tryd.prog ops Q (⟨dst, .load 24 x, ty, pos, after, gd⟩ :: rest) a w :=
  op_load_cellg b 3 hx h.cells _ _ hr rfl _ Tryd.underlying24 rfl hw k
theorem y_rus (b : Nat) (h : Rg) (t' : TypeId) (hS : ∀ V, S V → RowAt V b h.cells t') (hx : a.eval x = .pointer (some ⟨b, 3, none⟩)) :
    YieldsIf Tryd.prog ops S ⟨dst, .load 24 x, ty, pos, after, none⟩ (.int .u32 (h.us : Nat)) a := y_cell b 3 _ (fun V hV => ((hS V hV).cell 3).trans rfl) _ Tryd.underlying24 rfl hx
theorem ld_rla (b : Nat) (h : Rg) (t' : TypeId) (hr : RowAt w b h.cells t') (hx : a.eval x = .pointer (some ⟨b, 4, none⟩))
    (hw : Region.wanted ⟨dst, .load 34 x, ty, pos, after, gd⟩ (yielded ops a.tmps) = true) (k : wpList Tryd.prog ops Q rest (a.put dst (.int .u16 (h.la : Nat))) w) : wpList Tryd.prog ops Q (⟨dst, .load 34 x, ty, pos, after, gd⟩ :: rest) a w :=
  op_load_cellg b 4 hx h.cells _ _ hr rfl _ Tryd.underlying34 rfl hw k
theorem st_rla (b : Nat) (h : Rg) (n : Nat) (t' : TypeId) (hr : RowAt w b h.cells t') (hx : a.eval x = .pointer (some ⟨b, 4, none⟩)) (hy : a.eval y = .int .u16 (n : Nat))
    (k : ∀ W, RowAt W b ({ h with la := n } : Rg).cells t' → Only b w W → wpList Tryd.prog ops Q rest (a.put dst undef) W) : wpList Tryd.prog ops Q (⟨dst, .store 34 x y, ty, pos, after, none⟩ :: rest) a w :=
  op_store_cell b 4 hx _ hy h.cells _ _ hr size_u16i (by show 4 < 6; decide) rfl rfl k
theorem y_rla (b : Nat) (h : Rg) (t' : TypeId) (hS : ∀ V, S V → RowAt V b h.cells t') (hx : a.eval x = .pointer (some ⟨b, 4, none⟩)) :
    YieldsIf Tryd.prog ops S ⟨dst, .load 34 x, ty, pos, after, none⟩ (.int .u16 (h.la : Nat)) a := y_cell b 4 _ (fun V hV => ((hS V hV).cell 4).trans rfl) _ Tryd.underlying34 rfl hx
theorem ld_rpu (b : Nat) (h : Rg) (t' : TypeId) (hr : RowAt w b h.cells t') (hx : a.eval x = .pointer (some ⟨b, 5, none⟩))
    (hw : Region.wanted ⟨dst, .load 34 x, ty, pos, after, gd⟩ (yielded ops a.tmps) = true) (k : wpList Tryd.prog ops Q rest (a.put dst (.int .u16 (h.pu : Nat))) w) : wpList Tryd.prog ops Q (⟨dst, .load 34 x, ty, pos, after, gd⟩ :: rest) a w :=
  op_load_cellg b 5 hx h.cells _ _ hr rfl _ Tryd.underlying34 rfl hw k
theorem st_rpu (b : Nat) (h : Rg) (n : Nat) (t' : TypeId) (hr : RowAt w b h.cells t') (hx : a.eval x = .pointer (some ⟨b, 5, none⟩)) (hy : a.eval y = .int .u16 (n : Nat))
    (k : ∀ W, RowAt W b ({ h with pu := n } : Rg).cells t' → Only b w W → wpList Tryd.prog ops Q rest (a.put dst undef) W) : wpList Tryd.prog ops Q (⟨dst, .store 34 x y, ty, pos, after, none⟩ :: rest) a w :=
  op_store_cell b 5 hx _ hy h.cells _ _ hr size_u16i (by show 5 < 6; decide) rfl rfl k
theorem y_rpu (b : Nat) (h : Rg) (t' : TypeId) (hS : ∀ V, S V → RowAt V b h.cells t') (hx : a.eval x = .pointer (some ⟨b, 5, none⟩)) :
    YieldsIf Tryd.prog ops S ⟨dst, .load 34 x, ty, pos, after, none⟩ (.int .u16 (h.pu : Nat)) a := y_cell b 5 _ (fun V hV => ((hS V hV).cell 5).trans rfl) _ Tryd.underlying34 rfl hx
theorem ld_sat (b : Nat) (h : Sg) (t' : TypeId) (hr : RowAt w b h.cells t') (hx : a.eval x = .pointer (some ⟨b, 0, none⟩))
    (hw : Region.wanted ⟨dst, .load 24 x, ty, pos, after, gd⟩ (yielded ops a.tmps) = true) (k : wpList Tryd.prog ops Q rest (a.put dst (.int .u32 (h.at' : Nat))) w) : wpList Tryd.prog ops Q (⟨dst, .load 24 x, ty, pos, after, gd⟩ :: rest) a w :=
  op_load_cellg b 0 hx h.cells _ _ hr rfl _ Tryd.underlying24 rfl hw k
theorem y_sat (b : Nat) (h : Sg) (t' : TypeId) (hS : ∀ V, S V → RowAt V b h.cells t') (hx : a.eval x = .pointer (some ⟨b, 0, none⟩)) :
    YieldsIf Tryd.prog ops S ⟨dst, .load 24 x, ty, pos, after, none⟩ (.int .u32 (h.at' : Nat)) a := y_cell b 0 _ (fun V hV => ((hS V hV).cell 0).trans rfl) _ Tryd.underlying24 rfl hx
theorem ld_sn (b : Nat) (h : Sg) (t' : TypeId) (hr : RowAt w b h.cells t') (hx : a.eval x = .pointer (some ⟨b, 1, none⟩))
    (hw : Region.wanted ⟨dst, .load 3 x, ty, pos, after, gd⟩ (yielded ops a.tmps) = true) (k : wpList Tryd.prog ops Q rest (a.put dst (.int .i64 h.n)) w) : wpList Tryd.prog ops Q (⟨dst, .load 3 x, ty, pos, after, gd⟩ :: rest) a w :=
  op_load_cellg b 1 hx h.cells _ _ hr rfl _ Tryd.underlying3 rfl hw k
theorem st_sn (b : Nat) (h : Sg) (n : Int) (t' : TypeId) (hr : RowAt w b h.cells t') (hx : a.eval x = .pointer (some ⟨b, 1, none⟩)) (hy : a.eval y = .int .i64 n)
    (k : ∀ W, RowAt W b ({ h with n := n } : Sg).cells t' → Only b w W → wpList Tryd.prog ops Q rest (a.put dst undef) W) : wpList Tryd.prog ops Q (⟨dst, .store 3 x y, ty, pos, after, none⟩ :: rest) a w :=
  op_store_cell b 1 hx _ hy h.cells _ _ hr size_i64i (by show 1 < 3; decide) rfl rfl k
theorem y_sn (b : Nat) (h : Sg) (t' : TypeId) (hS : ∀ V, S V → RowAt V b h.cells t') (hx : a.eval x = .pointer (some ⟨b, 1, none⟩)) :
    YieldsIf Tryd.prog ops S ⟨dst, .load 3 x, ty, pos, after, none⟩ (.int .i64 h.n) a := y_cell b 1 _ (fun V hV => ((hS V hV).cell 1).trans rfl) _ Tryd.underlying3 rfl hx
theorem ld_swr (b : Nat) (h : Sg) (t' : TypeId) (hr : RowAt w b h.cells t') (hx : a.eval x = .pointer (some ⟨b, 2, none⟩))
    (hw : Region.wanted ⟨dst, .load 4 x, ty, pos, after, gd⟩ (yielded ops a.tmps) = true) (k : wpList Tryd.prog ops Q rest (a.put dst (.bool h.wr)) w) : wpList Tryd.prog ops Q (⟨dst, .load 4 x, ty, pos, after, gd⟩ :: rest) a w :=
  op_load_cellg b 2 hx h.cells _ _ hr rfl _ Tryd.underlying4 rfl hw k
theorem st_di (b i : Nat) (h : Nat → Nat) (v : Nat) (hi : i < 4) (hr : RowAt w b (dscV h) 125) (hx : a.eval x = .pointer (some ⟨b, i, none⟩)) (hy : a.eval y = .int .u32 (v : Nat))
    (k : ∀ W, RowAt W b (dscV (updN h i v)) 125 → Only b w W → wpList Tryd.prog ops Q rest (a.put dst undef) W) : wpList Tryd.prog ops Q (⟨dst, .store 24 x y, ty, pos, after, none⟩ :: rest) a w :=
  op_store_cell b i hx _ hy (dscV h) _ _ hr size_u32i (by show i < 4; exact hi) rfl (dsc_set h i v hi) k
theorem y_dc (b i : Nat) (g : Nat → Nat) (hi : i < 4) (t' : TypeId) (hS : ∀ V, S V → RowAt V b (dscV g) t') (hx : a.eval x = .pointer (some ⟨b, i, none⟩)) :
    YieldsIf Tryd.prog ops S ⟨dst, .load 24 x, ty, pos, after, none⟩ (.int .u32 (g i : Nat)) a := y_cell b i _ (fun V hV => ((hS V hV).cell i).trans (dsc_at g i hi)) _ Tryd.underlying24 rfl hx
theorem results_cell_u {P : Program} {fn : Func} {p u : Tmp} {ty : TypeId} (h : fn.results = #[.cell p ty, .tmp u]) (tmps : Array Value) (w : World) (g : Nat) (t : TypeId) (cs : Array Value) (d : TypeDesc)
    (hp : tmps.getD p undef = .pointer (some ⟨g, 0, none⟩)) (hg : RowAt w g cs t) (hu : P.underlying ty = some d) (hd : d.isRow = true) (hi : (P.info? ty).map (·.size) = some cs.size) :
    (results fn tmps).run P w = .ok (.tuple #[.agg cs, tmps.getD u undef]) w := by
  have e : tmps[p]?.getD undef = .pointer (some ⟨g, 0, none⟩) := by simpa using hp
  have l := run_loadVar_row w g t ty cs (0, 0) d hg hu (by cases d <;> first | rfl | cases hd) hi
  simp [results, h, e, asAddr, l]
theorem results_cell_uuu {P : Program} {fn : Func} {p u v z : Tmp} {ty : TypeId} (h : fn.results = #[.cell p ty, .tmp u, .tmp v, .tmp z]) (tmps : Array Value) (w : World) (g : Nat) (t : TypeId) (cs : Array Value) (d : TypeDesc)
    (hp : tmps.getD p undef = .pointer (some ⟨g, 0, none⟩)) (hg : RowAt w g cs t) (hu : P.underlying ty = some d) (hd : d.isRow = true) (hi : (P.info? ty).map (·.size) = some cs.size) :
    (results fn tmps).run P w = .ok (.tuple #[.agg cs, tmps.getD u undef, tmps.getD v undef, tmps.getD z undef]) w := by
  have e : tmps[p]?.getD undef = .pointer (some ⟨g, 0, none⟩) := by simpa using hp
  have l := run_loadVar_row w g t ty cs (0, 0) d hg hu (by cases d <;> first | rfl | cases hd) hi
  simp [results, h, e, asAddr, l]
end Go.Proofs.YtbggkoahofnnjaaDoor
