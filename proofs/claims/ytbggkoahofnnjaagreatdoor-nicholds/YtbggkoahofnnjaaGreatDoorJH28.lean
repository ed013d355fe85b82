/-
  The reference's net devices, in blocks of their own.
-/
import Derived.Test.YtbggkoahofnnjaaGreatDoorJH27
import Derived.Test.YtbggkoahofnnjaaGreatDoorJH11
import Derived.Test.YtbggkoahofnnjaaGreatDoorJH2
namespace Go.Proofs.YtbggkoahofnnjaaGreatDoor
open Go.RowKit
set_option linter.unusedVariables false

theorem Nc.at0 (s : Nc) : s.c[0]? = some (.int .u32 (s.p.st : Nat)) := rfl
theorem Nc.at1 (s : Nc) : s.c[1]? = some (.int .u32 (s.p.fs : Nat)) := rfl
theorem Nc.at2 (s : Nc) : s.c[2]? = some (.int .u32 (s.p.ds : Nat)) := rfl
theorem Nc.at3 (s : Nc) : s.c[3]? = some (.int .u32 (s.p.se : Nat)) := rfl
theorem Nc.at4 (s : Nc) : s.c[4]? = some (.int .u32 (s.p.ir : Nat)) := rfl
theorem Nc.at5 (s : Nc) : s.c[5]? = some (.int .u32 (s.p.d0 : Nat)) := rfl
theorem Nc.at6 (s : Nc) : s.c[6]? = some (.int .u32 (s.p.d1 : Nat)) := rfl
theorem Nc.at7 (s : Nc) : s.c[7]? = some (.bool s.p.q0.rd) := rfl
theorem Nc.at8 (s : Nc) : s.c[8]? = some (.int .i64 s.p.q0.r.sz) := rfl
theorem Nc.at9 (s : Nc) : s.c[9]? = some (.int .u32 (s.p.q0.r.de : Nat)) := rfl
theorem Nc.at10 (s : Nc) : s.c[10]? = some (.int .u32 (s.p.q0.r.av : Nat)) := rfl
theorem Nc.at11 (s : Nc) : s.c[11]? = some (.int .u32 (s.p.q0.r.us : Nat)) := rfl
theorem Nc.at12 (s : Nc) : s.c[12]? = some (.int .u16 (s.p.q0.r.la : Nat)) := rfl
theorem Nc.at13 (s : Nc) : s.c[13]? = some (.int .u16 (s.p.q0.r.pu : Nat)) := rfl
theorem Nc.at14 (s : Nc) : s.c[14]? = some (.bool s.p.q1.rd) := rfl
theorem Nc.at15 (s : Nc) : s.c[15]? = some (.int .i64 s.p.q1.r.sz) := rfl
theorem Nc.at16 (s : Nc) : s.c[16]? = some (.int .u32 (s.p.q1.r.de : Nat)) := rfl
theorem Nc.at17 (s : Nc) : s.c[17]? = some (.int .u32 (s.p.q1.r.av : Nat)) := rfl
theorem Nc.at18 (s : Nc) : s.c[18]? = some (.int .u32 (s.p.q1.r.us : Nat)) := rfl
theorem Nc.at19 (s : Nc) : s.c[19]? = some (.int .u16 (s.p.q1.r.la : Nat)) := rfl
theorem Nc.at20 (s : Nc) : s.c[20]? = some (.int .u16 (s.p.q1.r.pu : Nat)) := rfl
theorem Nc.ones (s : Nc) : s.c.all (·.oneCell') = true := by simp [Nc.c, V.cells, Value.oneCell']
theorem Cn.at0 (s : Cn) (v : Value) : (s.c v)[0]? = some (.int .i64 s.r.sz) := rfl
theorem Cn.at1 (s : Cn) (v : Value) : (s.c v)[1]? = some (.int .u32 (s.r.de : Nat)) := rfl
theorem Cn.at2 (s : Cn) (v : Value) : (s.c v)[2]? = some (.int .u32 (s.r.av : Nat)) := rfl
theorem Cn.at3 (s : Cn) (v : Value) : (s.c v)[3]? = some (.int .u32 (s.r.us : Nat)) := rfl
theorem Cn.at4 (s : Cn) (v : Value) : (s.c v)[4]? = some (.int .u16 (s.r.la : Nat)) := rfl
theorem Cn.at5 (s : Cn) (v : Value) : (s.c v)[5]? = some (.int .u16 (s.r.pu : Nat)) := rfl
theorem Cn.at6 (s : Cn) (v : Value) : (s.c v)[6]? = some (.int .i64 s.hd) := rfl
theorem Cn.at7 (s : Cn) (v : Value) : (s.c v)[7]? = some (v) := rfl
theorem Cn.ones (s : Cn) (v : Value) (hv : v.oneCell' = true) : (s.c v).all (·.oneCell') = true := by simp [Cn.c, Rg.cells, Value.oneCell'] ; simpa [Value.oneCell'] using hv
theorem ext_np (s : Nc) : (s.c.extract 0 (0 + s.p.cells.size)).toList = s.p.cells.toList := by kernel_rfl
theorem ext_nr0 (s : Nc) : (s.c.extract 8 (8 + s.p.q0.r.cells.size)).toList = s.p.q0.r.cells.toList := by kernel_rfl
theorem ext_nr1 (s : Nc) : (s.c.extract 15 (15 + s.p.q1.r.cells.size)).toList = s.p.q1.r.cells.toList := by kernel_rfl
theorem ext_cr (s : Cn) (v : Value) : ((s.c v).extract 0 (0 + s.r.cells.size)).toList = s.r.cells.toList := by kernel_rfl
theorem putAll_np (s : Nc) (p : V) : putAll s.c 0 p.cells.toList = (s.pw p).c := by kernel_rfl
theorem putAll_v0 (s : V) (r : Rg) : putAll s.cells 8 r.cells.toList = (s.qw 0 ((s.q 0).rw' r)).cells := by kernel_rfl
theorem putAll_v1 (s : V) (r : Rg) : putAll s.cells 15 r.cells.toList = (s.qw 1 ((s.q 1).rw' r)).cells := by kernel_rfl
variable {ops : Array Oper} {rest : List Oper} {dst : Option Tmp} {ty : TypeId} {pos : String} {after : Array Edge} {a : Act} {w : World} {Q : Exit → Act → World → Prop} {x y : Operand} {b : Nat} {S : World → Prop} {K : Act → World → Prop} {gd : Option (Nat × Bool)}
theorem size_nc : (Tryz.prog.info? 41).map (·.size) = some 23 := by kernel_rfl
theorem zero_nc (w : World) : (zeroValue 41).run Tryz.prog w = .ok (.agg zeroNc.c) w :=
  (zero_of_info (P := Tryz.prog) (t := 41) (v := .agg zeroNc.c) (n := 23) (by kernel_rfl)).1 w
theorem bx_nc (N : Nat) (h : Nc) (hN : w.heap.size = N) (hx : a.eval x = .agg h.c)
    (k : ∀ W, RowAt W N h.c 41 → Below N w W → Hid (W.heap.size = N + 1) → wpList Tryz.prog ops Q rest (a.put dst (.pointer (some ⟨N, 0, none⟩))) W) :
    wpList Tryz.prog ops Q (⟨dst, .box 41 x, ty, pos, after, none⟩ :: rest) a w := op_box N hN h.c hx k
theorem al_nc (N : Nat) (hN : w.heap.size = N)
    (k : ∀ W, RowAt W N zeroNc.c 41 → Below N w W → Hid (W.heap.size = N + 1) → wpList Tryz.prog ops Q rest (a.put dst (.pointer (some ⟨N, 0, none⟩))) W) :
    wpList Tryz.prog ops Q (⟨dst, .alloc 41, ty, pos, after, none⟩ :: rest) a w := op_alloc N hN zeroNc.c zero_nc k
theorem ld_nc (b : Nat) (h : Nc) (hr : RowAt w b h.c 41) (hx : a.eval x = .pointer (some ⟨b, 0, none⟩)) (hw : Region.wanted ⟨dst, .load 41 x, ty, pos, after, gd⟩ (yielded ops a.tmps) = true)
    (k : wpList Tryz.prog ops Q rest (a.put dst (.agg h.c)) w) : wpList Tryz.prog ops Q (⟨dst, .load 41 x, ty, pos, after, gd⟩ :: rest) a w :=
  BigFrame.wpList_want hw fun K hK => wp_load_row 41 x rfl b hx _ h.c (0, 0) _ hr Tryz.underlying41 rfl size_nc (hK _ _ k)
theorem st_nc (b : Nat) (old : Nc) (h : Nc) (hr : RowAt w b old.c 41) (hx : a.eval x = .pointer (some ⟨b, 0, none⟩)) (hy : a.eval y = .agg h.c)
    (k : ∀ W, RowAt W b h.c 41 → Only b w W → wpList Tryz.prog ops Q rest (a.put dst undef) W) : wpList Tryz.prog ops Q (⟨dst, .store 41 x y, ty, pos, after, none⟩ :: rest) a w :=
  op_store b hx h.c hy old.c _ hr size_nc rfl h.ones k
theorem y_nc (b : Nat) (h : Nc) (hS : ∀ V, S V → RowAt V b h.c 41) (hx : a.eval x = .pointer (some ⟨b, 0, none⟩)) (hw : Region.wanted ⟨dst, .load 41 x, ty, pos, after, gd⟩ (yielded ops a.tmps) = true) :
    YieldsIf Tryz.prog ops S ⟨dst, .load 41 x, ty, pos, after, gd⟩ (.agg h.c) a := by
  rcases y_load (ops := ops) (P := Tryz.prog) (t := 41) (dst := dst) (ty := ty) (after := after) (a := a) (x := x) (pos := pos) (S := S) b h.c _ hS _ Tryz.underlying41 rfl size_nc hx with ⟨_, h2⟩ | ⟨h1, _⟩
  · exact .inl ⟨hw, fun V hV => h2 V hV⟩
  · simp [Region.wanted] at h1
theorem s_nc (b : Nat) (old : Nc) (h : Nc) (hr : RowAt w b old.c 41) (hx : a.eval x = .pointer (some ⟨b, 0, none⟩)) (hy : a.eval y = .agg h.c)
    (k : ∀ W, RowAt W b h.c 41 → Only b w W → K (a.put dst undef) W) :
    Oper.wp Tryz.prog ⟨dst, .store 41 x y, ty, pos, after, none⟩ a w K Q :=
  s_store b hx h.c hy old.c _ hr size_nc rfl h.ones k
theorem size_cn : (Tryz.prog.info? 104).map (·.size) = some 8 := by kernel_rfl
theorem zero_cn (w : World) : (zeroValue 104).run Tryz.prog w = .ok (.agg (zeroCn.c nilS)) w :=
  (zero_of_info (P := Tryz.prog) (t := 104) (v := .agg (zeroCn.c nilS)) (n := 8) (by kernel_rfl)).1 w
theorem bx_cn (N : Nat) (h : Cn) (v : Value) (hN : w.heap.size = N) (hx : a.eval x = .agg (h.c v))
    (k : ∀ W, RowAt W N (h.c v) 104 → Below N w W → Hid (W.heap.size = N + 1) → wpList Tryz.prog ops Q rest (a.put dst (.pointer (some ⟨N, 0, none⟩))) W) :
    wpList Tryz.prog ops Q (⟨dst, .box 104 x, ty, pos, after, none⟩ :: rest) a w := op_box N hN (h.c v) hx k
theorem al_cn (N : Nat) (hN : w.heap.size = N)
    (k : ∀ W, RowAt W N (zeroCn.c nilS) 104 → Below N w W → Hid (W.heap.size = N + 1) → wpList Tryz.prog ops Q rest (a.put dst (.pointer (some ⟨N, 0, none⟩))) W) :
    wpList Tryz.prog ops Q (⟨dst, .alloc 104, ty, pos, after, none⟩ :: rest) a w := op_alloc N hN (zeroCn.c nilS) zero_cn k
theorem ld_cn (b : Nat) (h : Cn) (v : Value) (hr : RowAt w b (h.c v) 104) (hx : a.eval x = .pointer (some ⟨b, 0, none⟩)) (hw : Region.wanted ⟨dst, .load 104 x, ty, pos, after, gd⟩ (yielded ops a.tmps) = true)
    (k : wpList Tryz.prog ops Q rest (a.put dst (.agg (h.c v))) w) : wpList Tryz.prog ops Q (⟨dst, .load 104 x, ty, pos, after, gd⟩ :: rest) a w :=
  BigFrame.wpList_want hw fun K hK => wp_load_row 104 x rfl b hx _ (h.c v) (0, 0) _ hr Tryz.underlying104 rfl size_cn (hK _ _ k)
theorem st_cn (b : Nat) (old : Cn) (ov : Value) (h : Cn) (v : Value) (hv : v.oneCell' = true) (hr : RowAt w b (old.c ov) 104) (hx : a.eval x = .pointer (some ⟨b, 0, none⟩)) (hy : a.eval y = .agg (h.c v))
    (k : ∀ W, RowAt W b (h.c v) 104 → Only b w W → wpList Tryz.prog ops Q rest (a.put dst undef) W) : wpList Tryz.prog ops Q (⟨dst, .store 104 x y, ty, pos, after, none⟩ :: rest) a w :=
  op_store b hx (h.c v) hy (old.c ov) _ hr size_cn rfl (h.ones v hv) k
theorem ld_np (b : Nat) (h : Nc) (t' : TypeId) (hr : RowAt w b h.c t') (hx : a.eval x = .pointer (some ⟨b, 0, none⟩)) (hw : Region.wanted ⟨dst, .load 39 x, ty, pos, after, gd⟩ (yielded ops a.tmps) = true)
    (k : wpList Tryz.prog ops Q rest (a.put dst (.agg h.p.cells)) w) : wpList Tryz.prog ops Q (⟨dst, .load 39 x, ty, pos, after, gd⟩ :: rest) a w :=
  BigFrame.wpList_want hw fun K hK => wp_load_mid 39 x rfl b 0 hx h.p.cells.toList _ (ext_np h ▸ World.rangeAt_of_block hr 0 h.p.cells.size) Tryz.underlying39 rfl size_vp (hK _ _ k)
theorem ld_nr0 (b : Nat) (h : Nc) (t' : TypeId) (hr : RowAt w b h.c t') (hx : a.eval x = .pointer (some ⟨b, 8, none⟩)) (hw : Region.wanted ⟨dst, .load 34 x, ty, pos, after, gd⟩ (yielded ops a.tmps) = true)
    (k : wpList Tryz.prog ops Q rest (a.put dst (.agg h.p.q0.r.cells)) w) : wpList Tryz.prog ops Q (⟨dst, .load 34 x, ty, pos, after, gd⟩ :: rest) a w :=
  BigFrame.wpList_want hw fun K hK => wp_load_mid 34 x rfl b 8 hx h.p.q0.r.cells.toList _ (ext_nr0 h ▸ World.rangeAt_of_block hr 8 h.p.q0.r.cells.size) Tryz.underlying34 rfl size_rp (hK _ _ k)
theorem ld_nr1 (b : Nat) (h : Nc) (t' : TypeId) (hr : RowAt w b h.c t') (hx : a.eval x = .pointer (some ⟨b, 15, none⟩)) (hw : Region.wanted ⟨dst, .load 34 x, ty, pos, after, gd⟩ (yielded ops a.tmps) = true)
    (k : wpList Tryz.prog ops Q rest (a.put dst (.agg h.p.q1.r.cells)) w) : wpList Tryz.prog ops Q (⟨dst, .load 34 x, ty, pos, after, gd⟩ :: rest) a w :=
  BigFrame.wpList_want hw fun K hK => wp_load_mid 34 x rfl b 15 hx h.p.q1.r.cells.toList _ (ext_nr1 h ▸ World.rangeAt_of_block hr 15 h.p.q1.r.cells.size) Tryz.underlying34 rfl size_rp (hK _ _ k)
theorem ld_cr (b : Nat) (h : Cn) (v : Value) (t' : TypeId) (hr : RowAt w b (h.c v) t') (hx : a.eval x = .pointer (some ⟨b, 0, none⟩)) (hw : Region.wanted ⟨dst, .load 34 x, ty, pos, after, gd⟩ (yielded ops a.tmps) = true)
    (k : wpList Tryz.prog ops Q rest (a.put dst (.agg h.r.cells)) w) : wpList Tryz.prog ops Q (⟨dst, .load 34 x, ty, pos, after, gd⟩ :: rest) a w :=
  BigFrame.wpList_want hw fun K hK => wp_load_mid 34 x rfl b 0 hx h.r.cells.toList _ (ext_cr h v ▸ World.rangeAt_of_block hr 0 h.r.cells.size) Tryz.underlying34 rfl size_rp (hK _ _ k)
theorem st_np (b : Nat) (h : Nc) (f : V) (t' : TypeId) (hr : RowAt w b h.c t') (hx : a.eval x = .pointer (some ⟨b, 0, none⟩)) (hy : a.eval y = .agg f.cells)
    (k : ∀ W, RowAt W b (h.pw f).c t' → Only b w W → wpList Tryz.prog ops Q rest (a.put dst undef) W) : wpList Tryz.prog ops Q (⟨dst, .store 39 x y, ty, pos, after, none⟩ :: rest) a w :=
  op_store_mid b 0 hx f.cells hy h.c _ _ hr size_vp (by show 0 + 21 ≤ 23; decide) (vi_one f) (putAll_np h f) k
theorem st_v0 (b : Nat) (h : V) (f : Rg) (t' : TypeId) (hr : RowAt w b h.cells t') (hx : a.eval x = .pointer (some ⟨b, 8, none⟩)) (hy : a.eval y = .agg f.cells)
    (k : ∀ W, RowAt W b (h.qw 0 ((h.q 0).rw' f)).cells t' → Only b w W → wpList Tryz.prog ops Q rest (a.put dst undef) W) : wpList Tryz.prog ops Q (⟨dst, .store 34 x y, ty, pos, after, none⟩ :: rest) a w :=
  op_store_mid b 8 hx f.cells hy h.cells _ _ hr size_rp (by show 8 + 6 ≤ 21; decide) (rg_one f) (putAll_v0 h f) k
theorem st_v1 (b : Nat) (h : V) (f : Rg) (t' : TypeId) (hr : RowAt w b h.cells t') (hx : a.eval x = .pointer (some ⟨b, 15, none⟩)) (hy : a.eval y = .agg f.cells)
    (k : ∀ W, RowAt W b (h.qw 1 ((h.q 1).rw' f)).cells t' → Only b w W → wpList Tryz.prog ops Q rest (a.put dst undef) W) : wpList Tryz.prog ops Q (⟨dst, .store 34 x y, ty, pos, after, none⟩ :: rest) a w :=
  op_store_mid b 15 hx f.cells hy h.cells _ _ hr size_rp (by show 15 + 6 ≤ 21; decide) (rg_one f) (putAll_v1 h f) k
theorem ld_nbe (b : Nat) (h : Nc) (t' : TypeId) (hr : RowAt w b h.c t') (hx : a.eval x = .pointer (some ⟨b, 21, none⟩)) (hw : Region.wanted ⟨dst, .load 4 x, ty, pos, after, gd⟩ (yielded ops a.tmps) = true)
    (k : wpList Tryz.prog ops Q rest (a.put dst (.bool h.be)) w) : wpList Tryz.prog ops Q (⟨dst, .load 4 x, ty, pos, after, gd⟩ :: rest) a w :=
  op_load_cellg b 21 hx h.c _ _ hr rfl _ Tryz.underlying4 rfl hw k
theorem st_nbe (b : Nat) (h : Nc) (n : Bool) (t' : TypeId) (hr : RowAt w b h.c t') (hx : a.eval x = .pointer (some ⟨b, 21, none⟩)) (hy : a.eval y = .bool n)
    (k : ∀ W, RowAt W b ((h.bw n).c) t' → Only b w W → wpList Tryz.prog ops Q rest (a.put dst undef) W) : wpList Tryz.prog ops Q (⟨dst, .store 4 x y, ty, pos, after, none⟩ :: rest) a w :=
  op_store_cell b 21 hx _ hy h.c _ _ hr size_boi (by show 21 < 23; decide) rfl rfl k
theorem ld_nlo (b : Nat) (h : Nc) (t' : TypeId) (hr : RowAt w b h.c t') (hx : a.eval x = .pointer (some ⟨b, 22, none⟩)) (hw : Region.wanted ⟨dst, .load 22 x, ty, pos, after, gd⟩ (yielded ops a.tmps) = true)
    (k : wpList Tryz.prog ops Q rest (a.put dst (.int .u32 (h.lo : Nat))) w) : wpList Tryz.prog ops Q (⟨dst, .load 22 x, ty, pos, after, gd⟩ :: rest) a w :=
  op_load_cellg b 22 hx h.c _ _ hr rfl _ Tryz.underlying22 rfl hw k
theorem st_nlo (b : Nat) (h : Nc) (n : Nat) (t' : TypeId) (hr : RowAt w b h.c t') (hx : a.eval x = .pointer (some ⟨b, 22, none⟩)) (hy : a.eval y = .int .u32 (n : Nat))
    (k : ∀ W, RowAt W b ((h.lw n).c) t' → Only b w W → wpList Tryz.prog ops Q rest (a.put dst undef) W) : wpList Tryz.prog ops Q (⟨dst, .store 22 x y, ty, pos, after, none⟩ :: rest) a w :=
  op_store_cell b 22 hx _ hy h.c _ _ hr size_u32i (by show 22 < 23; decide) rfl rfl k
theorem ld_chd (b : Nat) (h : Cn) (v : Value) (t' : TypeId) (hr : RowAt w b (h.c v) t') (hx : a.eval x = .pointer (some ⟨b, 6, none⟩)) (hw : Region.wanted ⟨dst, .load 3 x, ty, pos, after, gd⟩ (yielded ops a.tmps) = true)
    (k : wpList Tryz.prog ops Q rest (a.put dst (.int .i64 h.hd)) w) : wpList Tryz.prog ops Q (⟨dst, .load 3 x, ty, pos, after, gd⟩ :: rest) a w :=
  op_load_cellg b 6 hx (h.c v) _ _ hr rfl _ Tryz.underlying3 rfl hw k
theorem ld_cps (b : Nat) (h : Cn) (v : Value) (t' : TypeId) (hr : RowAt w b (h.c v) t') (hx : a.eval x = .pointer (some ⟨b, 7, none⟩)) (hw : Region.wanted ⟨dst, .load 102 x, ty, pos, after, gd⟩ (yielded ops a.tmps) = true)
    (k : wpList Tryz.prog ops Q rest (a.put dst (v)) w) : wpList Tryz.prog ops Q (⟨dst, .load 102 x, ty, pos, after, gd⟩ :: rest) a w :=
  op_load_cellg b 7 hx (h.c v) _ _ hr rfl _ Tryz.underlying102 rfl hw k
end Go.Proofs.YtbggkoahofnnjaaGreatDoor
namespace Go.Proofs.YtbggkoahofnnjaaGreatDoor
open Go.RowKit
set_option linter.unusedVariables false
set_option linter.unusedSimpArgs false

def lv0 : Nc := ⟨zeroV, true, 0⟩
def lv1 : Nc := ⟨zeroV.stw 15, true, 0⟩
def lv2 : Nc := ⟨(zeroV.stw 15).d1w 1, true, 0⟩
def lvQ : Qu := ⟨true, lR 0 0⟩
variable {ops : Array Oper} {rest : List Oper} {dst : Option Tmp} {ty : TypeId} {pos : String} {after : Array Edge} {a : Act} {w : World} {Q : Exit → Act → World → Prop} {x y : Operand}
theorem st_l1 (b : Nat) (t' : TypeId) (hr : RowAt w b lv0.c t') (hx : a.eval x = .pointer (some ⟨b, 0, none⟩)) (hy : a.eval y = .int .u32 15)
    (k : ∀ W, RowAt W b lv1.c t' → Only b w W → wpList Tryz.prog ops Q rest (a.put dst undef) W) : wpList Tryz.prog ops Q (⟨dst, .store 22 x y, ty, pos, after, none⟩ :: rest) a w :=
  op_store_cell b 0 hx _ hy lv0.c _ _ hr size_u32i (by show 0 < 23; decide) rfl rfl k
theorem st_l2 (b : Nat) (t' : TypeId) (hr : RowAt w b lv1.c t') (hx : a.eval x = .pointer (some ⟨b, 5, none⟩)) (hy : a.eval y = .agg #[.int .u32 0, .int .u32 1])
    (k : ∀ W, RowAt W b lv2.c t' → Only b w W → wpList Tryz.prog ops Q rest (a.put dst undef) W) : wpList Tryz.prog ops Q (⟨dst, .store 23 x y, ty, pos, after, none⟩ :: rest) a w :=
  op_store_mid b 5 hx #[.int .u32 0, .int .u32 1] hy lv1.c _ _ hr size_drv (by show 5 + 2 ≤ 23; decide) (by simp [Value.oneCell']) (by kernel_rfl) k
theorem st_l3_1 (b : Nat) (t' : TypeId) (hr : RowAt w b lv2.c t') (hx : a.eval x = .pointer (some ⟨b, 14, none⟩)) (hy : a.eval y = .agg lvQ.cells)
    (k : ∀ W, RowAt W b (lvS 1).c t' → Only b w W → wpList Tryz.prog ops Q rest (a.put dst undef) W) : wpList Tryz.prog ops Q (⟨dst, .store 36 x y, ty, pos, after, none⟩ :: rest) a w :=
  op_store_mid b 14 hx lvQ.cells hy lv2.c _ _ hr size_qp (by show 14 + 7 ≤ 23; decide) (by kernel_rfl) (by kernel_rfl) k
set_option maxHeartbeats 1000000 in
theorem live_1 (w : World) : Calls Tryz.prog 32 #[.int .i64 1] w fun e w' => e = .returned (.agg (lvS 1).c) ∧ Below w.heap.size w w' := by
  go_enter Tryz.func32, Tryz.ntmps32
  go_wp2_with (first | ((with_reducible refine al_nc w.heap.size ?_ ?_); exact rfl; intro W hq hb hz) | ((with_reducible refine al_nc (w.heap.size + 1) ?_ ?_); exact hz.out; intro W hx hb' hz'; replace hq := hq.bl (hz.out ▸ hb'); replace hb := hb.trans (hb'.mono (by omega)); clear hb' hz') | ((with_reducible refine st_nc (w.heap.size + 1) _ lv0 hx ?_ ?_ ?_); exact rfl; (first | exact rfl | kernel_rfl); intro W hnew ho; replace hq := hq.only ho (by omega); replace hx := hnew; replace hb := ho.bel _ _ (by omega) hb) | ((with_reducible refine st_l1 (w.heap.size + 1) _ hx ?_ ?_ ?_); exact rfl; (first | exact rfl | kernel_rfl); intro W hnew ho; replace hq := hq.only ho (by omega); replace hx := hnew; replace hb := ho.bel _ _ (by omega) hb) | ((with_reducible refine st_l2 (w.heap.size + 1) _ hx ?_ ?_ ?_); exact rfl; (first | exact rfl | kernel_rfl); intro W hnew ho; replace hq := hq.only ho (by omega); replace hx := hnew; replace hb := ho.bel _ _ (by omega) hb) | ((with_reducible refine st_l3_1 (w.heap.size + 1) _ hx ?_ ?_ ?_); exact rfl; (first | exact rfl | kernel_rfl); intro W hnew ho; replace hq := hq.only ho (by omega); replace hx := hnew; replace hb := ho.bel _ _ (by omega) hb) | ((with_reducible refine ld_nc (w.heap.size + 1) (lvS 1) hx ?_ ?_ ?_); exact rfl; exact rfl) | ((with_reducible refine st_nc w.heap.size _ (lvS 1) hq ?_ ?_ ?_); exact rfl; exact rfl; intro W hnew ho; replace hq := hnew; replace hb := ho.bel _ _ (by omega) hb))
  refine bodyPost_ret (results_cell_row Tryz.results32 _ _ w.heap.size _ _ _ _ rfl hq Tryz.underlying41 rfl size_nc) rfl ?_
  exact ⟨rfl, hb⟩
end Go.Proofs.YtbggkoahofnnjaaGreatDoor
namespace Go.Proofs.YtbggkoahofnnjaaGreatDoor
open Go.RowKit
set_option linter.unusedVariables false
set_option linter.unusedSimpArgs false

theorem isfr_any (n : Int) (w : World) :
    Calls Tryz.prog 51 #[.int .i64 n] w fun e w' => e = .returned (.bool (isFr n)) ∧ w' = w := by
  unfold isFr
  by_cases h1 : 1 ≤ n
  · have t1 : decide (1 ≤ n) = true := decide_eq_true h1
    rw [t1, Bool.true_and]
    by_cases h2 : n ≤ 1514
    · have t2 : decide (n ≤ 1514) = true := decide_eq_true h2
      rw [t2]
      go_enter Tryz.func51, Tryz.ntmps51
      go_wp2
      go_ret
      exact ⟨rfl, rfl⟩
    · have t2 : decide (n ≤ 1514) = false := decide_eq_false h2
      rw [t2]
      go_enter Tryz.func51, Tryz.ntmps51
      go_wp2
      go_ret
      exact ⟨rfl, rfl⟩
  · have t1 : decide (1 ≤ n) = false := decide_eq_false h1
    rw [t1, Bool.false_and]
    go_enter Tryz.func51, Tryz.ntmps51
    go_wp2
    go_ret
    exact ⟨rfl, rfl⟩
set_option maxHeartbeats 1000000 in
theorem works_0 (s : V) (ok : s.Ok) (w : World) :
    Calls Tryz.prog 37 #[.agg s.cells, .int .i64 0] w fun e w' => e = .returned (.bool (ncWorks s 0)) ∧ Below w.heap.size w w' := by
  have HL := hide (fun w => live_any s ok w)
  have e0 : ncWorks s 0 = (liveV s && s.q0.rd) := rfl
  rw [e0]
  clear e0
  generalize liveV s = l at *
  cases l with
  | true =>
    rw [Bool.true_and]
    go_enter Tryz.func37, Tryz.ntmps37
    go_wp2_with (first | ((with_reducible refine bx_vp w.heap.size s ?_ ?_ ?_); exact rfl; exact rfl; intro W hr hb hz) | ((with_reducible refine ld_vp w.heap.size s hr ?_ ?_ ?_); exact rfl; exact rfl) | (go_at_call 78; (with_reducible refine (HL.out _).mono ?_); rintro e W ⟨rfl, hbc⟩; replace hr := hr.bl hbc; replace hb := below_bl rfl hb hbc) | ((with_reducible refine ld_rd0 w.heap.size s _ hr ?_ ?_ ?_); exact rfl; exact rfl))
    go_ret
    exact ⟨rfl, hb⟩
  | false =>
    rw [Bool.false_and]
    go_enter Tryz.func37, Tryz.ntmps37
    go_wp2_with (first | ((with_reducible refine bx_vp w.heap.size s ?_ ?_ ?_); exact rfl; exact rfl; intro W hr hb hz) | ((with_reducible refine ld_vp w.heap.size s hr ?_ ?_ ?_); exact rfl; exact rfl) | (go_at_call 78; (with_reducible refine (HL.out _).mono ?_); rintro e W ⟨rfl, hbc⟩; replace hr := hr.bl hbc; replace hb := below_bl rfl hb hbc))
    go_ret
    exact ⟨rfl, hb⟩
set_option maxHeartbeats 1000000 in
theorem works_1 (s : V) (ok : s.Ok) (w : World) :
    Calls Tryz.prog 37 #[.agg s.cells, .int .i64 1] w fun e w' => e = .returned (.bool (ncWorks s 1)) ∧ Below w.heap.size w w' := by
  have HL := hide (fun w => live_any s ok w)
  have e0 : ncWorks s 1 = (liveV s && s.q1.rd) := rfl
  rw [e0]
  clear e0
  generalize liveV s = l at *
  cases l with
  | true =>
    rw [Bool.true_and]
    go_enter Tryz.func37, Tryz.ntmps37
    go_wp2_with (first | ((with_reducible refine bx_vp w.heap.size s ?_ ?_ ?_); exact rfl; exact rfl; intro W hr hb hz) | ((with_reducible refine ld_vp w.heap.size s hr ?_ ?_ ?_); exact rfl; exact rfl) | (go_at_call 78; (with_reducible refine (HL.out _).mono ?_); rintro e W ⟨rfl, hbc⟩; replace hr := hr.bl hbc; replace hb := below_bl rfl hb hbc) | ((with_reducible refine ld_rd1 w.heap.size s _ hr ?_ ?_ ?_); exact rfl; exact rfl))
    go_ret
    exact ⟨rfl, hb⟩
  | false =>
    rw [Bool.false_and]
    go_enter Tryz.func37, Tryz.ntmps37
    go_wp2_with (first | ((with_reducible refine bx_vp w.heap.size s ?_ ?_ ?_); exact rfl; exact rfl; intro W hr hb hz) | ((with_reducible refine ld_vp w.heap.size s hr ?_ ?_ ?_); exact rfl; exact rfl) | (go_at_call 78; (with_reducible refine (HL.out _).mono ?_); rintro e W ⟨rfl, hbc⟩; replace hr := hr.bl hbc; replace hb := below_bl rfl hb hbc))
    go_ret
    exact ⟨rfl, hb⟩
set_option maxHeartbeats 1000000 in
theorem failed_any (s : Nc) (ok : s.p.Ok) (w : World) :
    Calls Tryz.prog 39 #[.agg s.c] w fun e w' => e = .returned (.agg s.fail.c) ∧ Below w.heap.size w w' := by
  have HL := hide (fun w => fail_any s.p ok w)
  have e0 : s.fail = s.pw (failV s.p) := rfl
  rw [e0]
  clear e0
  generalize failV s.p = p1 at *
  obtain ⟨t, ht⟩ : ∃ t, s.pw p1 = t := ⟨_, rfl⟩
  have HT := hide ht
  rw [ht]
  clear ht
  go_enter Tryz.func39, Tryz.ntmps39
  go_wp2_with (first | ((with_reducible refine bx_nc w.heap.size s ?_ ?_ ?_); exact rfl; exact rfl; intro W hr hb hz) | ((with_reducible refine al_nc (w.heap.size + 1) ?_ ?_); exact hz.out; intro W hq hb' hz'; replace hr := hr.bl (hz.out ▸ hb'); replace hb := hb.trans (hb'.mono (by omega)); replace hz := hz') | ((with_reducible refine ld_np w.heap.size s _ hr ?_ ?_ ?_); exact rfl; exact rfl) | (go_at_call 81; (with_reducible refine (HL.out _).mono ?_); rintro e W ⟨rfl, hbc⟩; replace hr := hr.bl hbc; replace hq := hq.bl hbc; replace hb := below_bl rfl hb hbc) | ((with_reducible refine st_np w.heap.size s p1 _ hr ?_ ?_ ?_); exact rfl; exact rfl; intro W hnew ho; rw [HT.out] at hnew; replace hq := hq.only ho (by omega); replace hr := hnew; replace hb := ho.bel _ _ (by omega) hb) | ((with_reducible refine ld_nc w.heap.size t hr ?_ ?_ ?_); exact rfl; exact rfl) | ((with_reducible refine st_nc (w.heap.size + 1) _ t hq ?_ ?_ ?_); exact rfl; exact rfl; intro W hnew ho; replace hr := hr.only ho (by omega); replace hq := hnew; replace hb := ho.bel _ _ (by omega) hb))
  refine bodyPost_ret (results_cell_row Tryz.results39 _ _ (w.heap.size + 1) _ _ _ _ rfl hq Tryz.underlying41 rfl size_nc) rfl ?_
  exact ⟨rfl, hb⟩
set_option maxHeartbeats 1000000 in
theorem lost_any (s : Nc) (hs : s.lo < 4294967296) (w : World) :
    Calls Tryz.prog 52 #[.agg s.c] w fun e w' => e = .returned (.agg s.lost.c) ∧ Below w.heap.size w w' := by
  have e1 : IntKind.u32.wrap ((s.lo : Int) + 1) = (((s.lo + 1) % 4294967296 : Nat) : Int) := by rw [IntKind.wrap_u32]; omega
  have e2 : ((s.lo : Int) + 1) % 4294967296 = (((s.lo + 1) % 4294967296 : Nat) : Int) := by omega
  have E1 := hide e1
  have E2 := hide e2
  clear e1 e2
  have e0 : s.lost = s.lw ((s.lo + 1) % 4294967296) := rfl
  rw [e0]
  clear e0
  generalize (s.lo + 1) % 4294967296 = n1 at *
  obtain ⟨t, ht⟩ : ∃ t, s.lw n1 = t := ⟨_, rfl⟩
  have HT := hide ht
  rw [ht]
  clear ht hs
  go_enter Tryz.func52, Tryz.ntmps52
  go_wp2_with (first | ((with_reducible refine bx_nc w.heap.size s ?_ ?_ ?_); exact rfl; exact rfl; intro W hr hb hz) | ((with_reducible refine al_nc (w.heap.size + 1) ?_ ?_); exact hz.out; intro W hq hb' hz'; replace hr := hr.bl (hz.out ▸ hb'); replace hb := hb.trans (hb'.mono (by omega)); replace hz := hz') | ((with_reducible refine ld_nlo w.heap.size s _ hr ?_ ?_ ?_); exact rfl; exact rfl) | ((with_reducible refine st_nlo w.heap.size s n1 _ hr ?_ ?_ ?_); exact rfl; (first | exact congrArg _ E1.out | exact congrArg _ E2.out); intro W hnew ho; rw [HT.out] at hnew; replace hq := hq.only ho (by omega); replace hr := hnew; replace hb := ho.bel _ _ (by omega) hb) | ((with_reducible refine ld_nc w.heap.size t hr ?_ ?_ ?_); exact rfl; exact rfl) | ((with_reducible refine st_nc (w.heap.size + 1) _ t hq ?_ ?_ ?_); exact rfl; exact rfl; intro W hnew ho; replace hr := hr.only ho (by omega); replace hq := hnew; replace hb := ho.bel _ _ (by omega) hb))
  refine bodyPost_ret (results_cell_row Tryz.results52 _ _ (w.heap.size + 1) _ _ _ _ rfl hq Tryz.underlying41 rfl size_nc) rfl ?_
  exact ⟨rfl, hb⟩
set_option maxHeartbeats 1000000 in
theorem ncheck_any (s : Nc) (ok : s.p.Ok) (w : World) (hO : OffAt w) :
    Calls Tryz.prog 13 #[.agg s.c] w fun e w' => e = .returned (errR (if mayV s.p = true then 0 else 1)) ∧ Below w.heap.size w w' := by
  have HC : Hid (∀ W, Below w.heap.size w W → Calls Tryz.prog 29 #[.agg s.p.cells] W fun e w' => e = .returned (errR (if mayV s.p = true then 0 else 1)) ∧ Below W.heap.size W w') := hide (fun W hb => vcheck_any s.p ok W (hO.bl hb))
  generalize mayV s.p = m at *
  clear hO
  cases m with
  | true =>
    rw [show errR (if true = true then 0 else 1) = .nilIface from rfl] at HC ⊢
    go_enter Tryz.func13, Tryz.ntmps13
    go_wp2_with (first | ((with_reducible refine bx_nc w.heap.size s ?_ ?_ ?_); exact rfl; exact rfl; intro W hr hb hz) | ((with_reducible refine ld_np w.heap.size s _ hr ?_ ?_ ?_); exact rfl; exact rfl) | (go_at_call 29; (with_reducible refine (HC.out _ hb).mono ?_); rintro e W ⟨rfl, hbc⟩; replace hb := below_bl rfl hb hbc))
    go_ret
    exact ⟨rfl, hb⟩
  | false =>
    rw [show errR (if false = true then 0 else 1) = .iface 82 (.int .i64 1) from rfl] at HC ⊢
    go_enter Tryz.func13, Tryz.ntmps13
    go_wp2_with (first | ((with_reducible refine bx_nc w.heap.size s ?_ ?_ ?_); exact rfl; exact rfl; intro W hr hb hz) | ((with_reducible refine ld_np w.heap.size s _ hr ?_ ?_ ?_); exact rfl; exact rfl) | (go_at_call 29; (with_reducible refine (HC.out _ hb).mono ?_); rintro e W ⟨rfl, hbc⟩; replace hb := below_bl rfl hb hbc))
    go_ret
    exact ⟨rfl, hb⟩
end Go.Proofs.YtbggkoahofnnjaaGreatDoor
namespace Go.Proofs.YtbggkoahofnnjaaGreatDoor
open Go.RowKit
set_option linter.unusedVariables false
set_option linter.unusedSimpArgs false

theorem ir_or1 : ∀ n, n ≤ 3 → n ||| 1 ≤ 3 := by decide
theorem mayV_used {s : V} (h : mayV s = true) : mayV (usedV s) = true := by
  rw [mayV_iff] at h ⊢
  exact ⟨h.st, ir_or1 _ h.ir, h.se, h.q0, h.q1⟩
/-- A ring with another count. -/
structure RgSame (r r' : Rg) : Prop where
  sz : r'.sz = r.sz
  de : r'.de = r.de
  av : r'.av = r.av
  us : r'.us = r.us
theorem RgSame.refl (r : Rg) : RgSame r r := ⟨rfl, rfl, rfl, rfl⟩
theorem RgSame.trans {a b c : Rg} (h : RgSame a b) (k : RgSame b c) : RgSame a c := ⟨k.sz.trans h.sz, k.de.trans h.de, k.av.trans h.av, k.us.trans h.us⟩
theorem RgSame.chk {a b : Rg} (h : RgSame a b) : chkR b = chkR a := by unfold chkR alR; rw [h.sz, h.de, h.av, h.us]
theorem mayQ_same {q : Qu} {r : Rg} (h : mayQ q = true) (k : RgSame q.r r) : mayQ (q.rw' r) = true := by
  show (if q.rd = true then chkR r else (decide (0 ≤ r.sz) && decide (r.sz ≤ 256))) = true
  rw [k.chk, k.sz]
  exact h
theorem next_same {p : Nat} {f : Nat → Nat} {r : Rg} {e : Nat} {c : Cn} {l : List Sg} (h : ncNext p f r = (e, some (c, l))) (hr : r.Ok) : RgSame r c.r ∧ c.r.Ok ∧ chkR c.r = true := by
  have hv : (nextV p f r).2.2.1 = true → RgSame r (nextV p f r).1 ∧ (nextV p f r).1.Ok ∧ chkR (nextV p f r).1 = true := by
    unfold nextV
    repeat' split
    all_goals intro q
    all_goals first
      | (exfalso; simp at q; done)
      | exact ⟨⟨rfl, rfl, rfl, rfl⟩, ⟨hr.sz0, hr.sz1, hr.de, hr.av, hr.us, Nat.mod_lt _ (by decide), hr.pu⟩, by assumption⟩
  unfold ncNext at h
  split at h
  · split at h
    · rename_i q
      split at h
      · cases h
      · cases h; exact hv q
    · cases h
  · cases h
theorem give_same {p : Nat} {f : Nat → Nat} {r r' : Rg} {hd : Int} {n : Nat} (e : (giveV p f r hd n).2 = some r') : RgSame r r' := by
  unfold giveV at e
  repeat' split at e
  all_goals first
    | (cases e; exact ⟨rfl, rfl, rfl, rfl⟩)
    | cases e
theorem qw_q (s : V) (i : Nat) (q : Qu) (hi : i < 2) : (s.qw i q).q i = q := by
  rcases (show i = 0 ∨ i = 1 by omega) with rfl | rfl <;> rfl
theorem qw_ok {s : V} (h : s.Ok) (i : Nat) {q : Qu} (hq : q.r.Ok) : (s.qw i q).Ok := by
  unfold V.qw
  split
  · exact ⟨h.st, h.fs, h.ds, h.se, h.ir, h.d0, h.d1, hq, h.q1⟩
  · exact ⟨h.st, h.fs, h.ds, h.se, h.ir, h.d0, h.d1, h.q0, hq⟩
theorem usedV_ok {s : V} (h : s.Ok) : (usedV s).Ok := ⟨h.st, h.fs, h.ds, h.se, or_lt32 h.ir (by decide), h.d0, h.d1, h.q0, h.q1⟩
theorem ans_keep {p : Nat} {f : Nat → Nat} {s : V} {q : Nat} {c : Cn} {l : List Sg} {b : List Nat} (hq : q < 2) (ok : s.Ok) (hc : c.r.Ok) : (ncAns p f s q c l b).2.1.Ok ∧ (mayV s = true → RgSame (s.q q).r c.r → mayV (ncAns p f s q c l b).2.1 = true) := by
  have o1 := qw_ok ok q (q := (s.q q).rw' c.r) hc
  have m1 : mayV s = true → RgSame (s.q q).r c.r → mayV (s.qw q ((s.q q).rw' c.r)) = true := fun h k => by
    rw [mayV_iff] at h ⊢
    exact mayV_qw h q (mayQ_same (mayV_q h q) k)
  unfold ncAns
  split
  · split
    · exact ⟨failV_ok o1, fun h k => mayV_fail (m1 h k)⟩
    · rename_i r hg
      have hro := givenR_ok hc hg
      refine ⟨usedV_ok (qw_ok o1 q hro), fun h k => mayV_used ?_⟩
      have h1 := m1 h k
      rw [mayV_iff] at h1 ⊢
      refine mayV_qw h1 q (mayQ_same (mayV_q h1 q) ?_)
      rw [qw_q _ _ _ hq]
      exact give_same hg
  · exact ⟨failV_ok o1, fun h k => mayV_fail (m1 h k)⟩
/-- What a state keeps. -/
structure NKept (s t : Nc) : Prop where
  ok : t.Ok
  may : mayV s.p = true → mayV t.p = true
theorem walk_lo {p : Nat} {f : Nat → Nat} {r : Rg} {hd : Int} {ps : List Sg} (h : walkV p f r hd = some ps) : (∀ s ∈ ps, 0 ≤ s.n) ∧ (ps.map fun s => s.n.toNat).sum ≤ 1048576 := by
  unfold walkV at h
  cases hfo : followV p f r r.sz.toNat hd with
  | none => rw [hfo] at h; cases h
  | some l =>
    rw [hfo] at h
    simp only at h
    cases ho : oddL p 0 false l with
    | true => rw [ho] at h; simp at h
    | false =>
      rw [ho] at h
      simp at h
      subst h
      obtain ⟨h1, h2⟩ := follow_len _ _ _ hfo
      obtain ⟨i1, i2⟩ := odd_parts p l 0 false ho
      refine ⟨fun s hs => ?_, ?_⟩
      · obtain ⟨g, hg, rfl⟩ := List.mem_map.1 hs
        show (0 : Int) ≤ ((g 2 : Nat) : Int)
        omega
      · rw [List.map_map]
        have e : ((fun s => s.n.toNat) ∘ sgOf) = fun g : Nat → Nat => g 2 := by funext g; show ((g 2 : Nat) : Int).toNat = _; simp
        rw [e]
        have := i2 h2
        omega
theorem next_lo {p : Nat} {f : Nat → Nat} {r : Rg} {e : Nat} {c : Cn} {l : List Sg} (h : ncNext p f r = (e, some (c, l))) : (∀ s ∈ l, 0 ≤ s.n) ∧ (l.map fun s => s.n.toNat).sum ≤ 1048576 := by
  unfold ncNext at h
  split at h
  · split at h
    · split at h
      · cases h
      · rename_i l' hw
        cases h
        exact walk_lo hw
    · cases h
  · cases h
theorem room_lo {l : List Sg} (h0 : ∀ s ∈ l, 0 ≤ s.n) (ht : (l.map fun s => s.n.toNat).sum ≤ 1048576) (wr : Bool) : roomV wr 0 l = (sumR wr l : Int) ∧ sumR wr l ≤ 1048576 := by
  have h1 := sumR_le wr l
  refine ⟨by rw [room_sum wr l 0 (by decide) h0 (by omega)]; omega, by omega⟩
theorem frame_len {f : Nat → Nat} {l : List Sg} {b : List Nat} (h0 : ∀ s ∈ l, 0 ≤ s.n) (ht : (l.map fun s => s.n.toNat).sum ≤ 1048576) (h : ncFrame f l = some b) : 1 ≤ b.length ∧ b.length ≤ 1514 := by
  unfold ncFrame at h
  split at h
  · rename_i q
    cases h
    simp only [isFr, Bool.and_eq_true, decide_eq_true_eq] at q
    obtain ⟨r1, r2⟩ := room_lo h0 ht false
    rw [List.length_drop, gath_len f l 9223372036854775807 h0 (by omega)]
    omega
  · cases h
theorem fail_kept {s : Nc} (ok : s.Ok) : NKept s s.fail := ⟨⟨failV_ok ok.p, ok.lo⟩, mayV_fail⟩
theorem ans_kept {p : Nat} {f : Nat → Nat} {s : Nc} {q : Nat} {c : Cn} {l : List Sg} {b : List Nat} (hq : q < 2) (ok : s.Ok) (hc : c.r.Ok) (hk : RgSame (s.p.q q).r c.r) : NKept s (s.pw (ncAns p f s.p q c l b).2.1) :=
  ⟨⟨(ans_keep hq ok.p hc).1, ok.lo⟩, fun h => (ans_keep hq ok.p hc).2 h hk⟩
theorem NKept.trans {a b c : Nc} (h : NKept a b) (k : NKept b c) : NKept a c := ⟨k.ok, fun e => k.may (h.may e)⟩
theorem lost_kept {s t : Nc} (h : NKept s t) : NKept s t.lost := ⟨⟨h.ok.p, Nat.mod_lt _ (by decide)⟩, h.may⟩
theorem NKept.refl {s : Nc} (ok : s.Ok) : NKept s s := ⟨ok, id⟩
theorem send_keep {p : Nat} : ∀ (k : Nat) (f : Nat → Nat) (s : Nc) (acc : List (List Nat)), s.Ok → NKept s (ncSend p k f s acc).2.1 ∧ (ncSend p k f s acc).2.1.lo = s.lo ∧ ∃ l, (ncSend p k f s acc).2.2 = acc ++ l ∧ l.length ≤ k ∧ ∀ x ∈ l, 1 ≤ x.length ∧ x.length ≤ 1514
  | 0, f, s, acc, ok => ⟨NKept.refl ok, rfl, [], (List.append_nil _).symm, Nat.zero_le _, fun x h => by cases h⟩
  | k + 1, f, s, acc, ok => by
    have none_ : ∀ t : Nc, NKept s t → t.lo = s.lo → NKept s t ∧ t.lo = s.lo ∧ ∃ l, acc = acc ++ l ∧ l.length ≤ k + 1 ∧ ∀ x ∈ l, 1 ≤ x.length ∧ x.length ≤ 1514 := fun t h1 h2 => ⟨h1, h2, [], (List.append_nil _).symm, Nat.zero_le _, fun x h => by cases h⟩
    unfold ncSend
    split
    · rename_i e hn
      split
      · exact none_ (s.bw false) ⟨⟨ok.p, ok.lo⟩, id⟩ rfl
      · exact none_ s.fail (fail_kept ok) rfl
    · rename_i e c l hn
      obtain ⟨k1, k2, k3⟩ := next_same hn ok.p.q1
      obtain ⟨l1, l2⟩ := next_lo hn
      have hA : NKept s (s.pw (ncAns p f s.p 1 c l []).2.1) := ans_kept (by decide) ok k2 k1
      split
      · exact none_ s.fail (fail_kept ok) rfl
      · rename_i b hb
        have hL := frame_len l1 l2 hb
        split
        · obtain ⟨i1, i2, m, i3, i4, i5⟩ := send_keep k (ncAns p f s.p 1 c l []).1 (s.pw (ncAns p f s.p 1 c l []).2.1) (acc ++ [b]) hA.ok
          exact ⟨hA.trans i1, i2, b :: m, by rw [i3, List.append_assoc]; rfl, by simp only [List.length_cons]; omega, fun x hx => by
            rcases List.mem_cons.1 hx with rfl | hx
            · exact hL
            · exact i5 x hx⟩
        · exact ⟨hA, rfl, [b], rfl, by simp, fun x hx => by rw [List.mem_singleton.1 hx]; exact hL⟩
theorem sendV_keep {p : Nat} {f : Nat → Nat} {s : Nc} (ok : s.Ok) : NKept s (sendV p f s).2.1 ∧ (sendV p f s).2.1.lo = s.lo ∧ (sendV p f s).2.2.length ≤ 4 ∧ ∀ x ∈ (sendV p f s).2.2, 1 ≤ x.length ∧ x.length ≤ 1514 := by
  unfold sendV
  split
  · obtain ⟨h1, h2, l, h3, h4, h5⟩ := send_keep (p := p) 4 f s [] ok
    rw [List.nil_append] at h3
    rw [h3]
    exact ⟨h1, h2, h4, h5⟩
  · exact ⟨NKept.refl ok, rfl, Nat.zero_le _, fun x h => by cases h⟩
theorem takeV_keep {p : Nat} {f : Nat → Nat} {s : Nc} {b : List Nat} (ok : s.Ok) (hb : isFr (b.length : Int) = true) : NKept s (takeV p f s b).2.1 ∧ (takeV p f s b).2.2.2 = 0 ∧ (((takeV p f s b).2.2.1 = true ∧ (takeV p f s b).2.1.lo = s.lo) ∨ ((takeV p f s b).2.2.1 = false ∧ (takeV p f s b).2.1.lo = (s.lo + 1) % 4294967296)) := by
  unfold takeV
  rw [if_pos hb]
  split
  · split
    · split
      · exact ⟨lost_kept (NKept.refl ok), rfl, .inr ⟨rfl, rfl⟩⟩
      · exact ⟨lost_kept (fail_kept ok), rfl, .inr ⟨rfl, rfl⟩⟩
    · rename_i e c l hn
      obtain ⟨k1, k2, k3⟩ := next_same hn ok.p.q0
      split
      · exact ⟨lost_kept (ans_kept (by decide) ok k2 k1), rfl, .inr ⟨rfl, rfl⟩⟩
      · exact ⟨ans_kept (by decide) ok k2 k1, rfl, .inl ⟨rfl, rfl⟩⟩
  · exact ⟨lost_kept (NKept.refl ok), rfl, .inr ⟨rfl, rfl⟩⟩
theorem takeV_no {p : Nat} {f : Nat → Nat} {s : Nc} {b : List Nat} (hb : isFr (b.length : Int) = false) : takeV p f s b = (f, zeroNc, false, 2) := by
  unfold takeV; rw [hb]; rfl
end Go.Proofs.YtbggkoahofnnjaaGreatDoor
namespace Go.Proofs.YtbggkoahofnnjaaGreatDoor
open Go.RowKit
set_option linter.unusedVariables false
set_option linter.unusedSimpArgs false

variable {ops : Array Oper} {rest : List Oper} {dst : Option Tmp} {ty : TypeId} {pos : String} {after : Array Edge} {a : Act} {w : World} {Q : Exit → Act → World → Prop} {K : Act → World → Prop} {x y : Operand} {gd : Option (Nat × Bool)}
end Go.Proofs.YtbggkoahofnnjaaGreatDoor
namespace Go.Proofs.YtbggkoahofnnjaaGreatDoor
open Go.RowKit
set_option linter.unusedVariables false

variable {ops : Array Oper} {rest : List Oper} {dst : Option Tmp} {ty : TypeId} {pos : String} {after : Array Edge} {a : Act} {w : World} {Q : Exit → Act → World → Prop} {x y : Operand} {b : Nat} {S : World → Prop} {K : Act → World → Prop} {gd : Option (Nat × Bool)}
theorem size_nf : (Tryz.prog.info? 33).map (·.size) = some 23 := by kernel_rfl
theorem bx_nf (N : Nat) (h : Nc) (hN : w.heap.size = N) (hx : a.eval x = .agg h.c)
    (k : ∀ W, RowAt W N h.c 33 → Below N w W → Hid (W.heap.size = N + 1) → wpList Tryz.prog ops Q rest (a.put dst (.pointer (some ⟨N, 0, none⟩))) W) :
    wpList Tryz.prog ops Q (⟨dst, .box 33 x, ty, pos, after, none⟩ :: rest) a w := op_box N hN h.c hx k
theorem ld_nf (b : Nat) (h : Nc) (hr : RowAt w b h.c 33) (hx : a.eval x = .pointer (some ⟨b, 0, none⟩)) (hw : Region.wanted ⟨dst, .load 33 x, ty, pos, after, gd⟩ (yielded ops a.tmps) = true)
    (k : wpList Tryz.prog ops Q rest (a.put dst (.agg h.c)) w) : wpList Tryz.prog ops Q (⟨dst, .load 33 x, ty, pos, after, gd⟩ :: rest) a w :=
  BigFrame.wpList_want hw fun K hK => wp_load_row 33 x rfl b hx _ h.c (0, 0) _ hr Tryz.underlying33 rfl size_nf (hK _ _ k)
end Go.Proofs.YtbggkoahofnnjaaGreatDoor
