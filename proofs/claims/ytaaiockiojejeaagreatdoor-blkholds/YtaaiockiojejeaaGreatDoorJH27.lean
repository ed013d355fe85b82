/-
  Lists of requests and of what is asked for, of one's own; slices.Clone.
-/
import Derived.Test.YtaaiockiojejeaaGreatDoorJH25
namespace Go.Proofs.YtaaiockiojejeaaGreatDoor
open Go.RowKit
set_option linter.unusedVariables false

def zeroBk : Bk := ⟨zeroV, 0, false, 0, []⟩
def zeroRq : Rq := ⟨0, 0, false, 0, 0, []⟩
def zeroAk : Ak := ⟨0, false, 0, 0, []⟩
def zeroCh : Ch := ⟨0, 0, 0, [], 0, 0⟩
/-- A chain's cells, where its parts are the slice v. -/
def Ch.c (c : Ch) (v : Value) : Array Value := #[.int .i64 c.hd, .int .u64 (c.kd : Nat), .int .u64 (c.se : Nat), v, .int .i64 c.rd, .int .i64 c.wr]
def nilS : Value := .slice none 0 0
theorem Bk.at0 (s : Bk) (v : Value) : (s.c v)[0]? = some (.int .u32 (s.p.st : Nat)) := rfl
theorem Bk.at1 (s : Bk) (v : Value) : (s.c v)[1]? = some (.int .u32 (s.p.fs : Nat)) := rfl
theorem Bk.at2 (s : Bk) (v : Value) : (s.c v)[2]? = some (.int .u32 (s.p.ds : Nat)) := rfl
theorem Bk.at3 (s : Bk) (v : Value) : (s.c v)[3]? = some (.int .u32 (s.p.se : Nat)) := rfl
theorem Bk.at4 (s : Bk) (v : Value) : (s.c v)[4]? = some (.int .u32 (s.p.ir : Nat)) := rfl
theorem Bk.at5 (s : Bk) (v : Value) : (s.c v)[5]? = some (.int .u32 (s.p.d0 : Nat)) := rfl
theorem Bk.at6 (s : Bk) (v : Value) : (s.c v)[6]? = some (.int .u32 (s.p.d1 : Nat)) := rfl
theorem Bk.at7 (s : Bk) (v : Value) : (s.c v)[7]? = some (.bool s.p.q0.rd) := rfl
theorem Bk.at8 (s : Bk) (v : Value) : (s.c v)[8]? = some (.int .i64 s.p.q0.r.sz) := rfl
theorem Bk.at9 (s : Bk) (v : Value) : (s.c v)[9]? = some (.int .u32 (s.p.q0.r.de : Nat)) := rfl
theorem Bk.at10 (s : Bk) (v : Value) : (s.c v)[10]? = some (.int .u32 (s.p.q0.r.av : Nat)) := rfl
theorem Bk.at11 (s : Bk) (v : Value) : (s.c v)[11]? = some (.int .u32 (s.p.q0.r.us : Nat)) := rfl
theorem Bk.at12 (s : Bk) (v : Value) : (s.c v)[12]? = some (.int .u16 (s.p.q0.r.la : Nat)) := rfl
theorem Bk.at13 (s : Bk) (v : Value) : (s.c v)[13]? = some (.int .u16 (s.p.q0.r.pu : Nat)) := rfl
theorem Bk.at14 (s : Bk) (v : Value) : (s.c v)[14]? = some (.bool s.p.q1.rd) := rfl
theorem Bk.at15 (s : Bk) (v : Value) : (s.c v)[15]? = some (.int .i64 s.p.q1.r.sz) := rfl
theorem Bk.at16 (s : Bk) (v : Value) : (s.c v)[16]? = some (.int .u32 (s.p.q1.r.de : Nat)) := rfl
theorem Bk.at17 (s : Bk) (v : Value) : (s.c v)[17]? = some (.int .u32 (s.p.q1.r.av : Nat)) := rfl
theorem Bk.at18 (s : Bk) (v : Value) : (s.c v)[18]? = some (.int .u32 (s.p.q1.r.us : Nat)) := rfl
theorem Bk.at19 (s : Bk) (v : Value) : (s.c v)[19]? = some (.int .u16 (s.p.q1.r.la : Nat)) := rfl
theorem Bk.at20 (s : Bk) (v : Value) : (s.c v)[20]? = some (.int .u16 (s.p.q1.r.pu : Nat)) := rfl
theorem Bk.at23 (s : Bk) (v : Value) : (s.c v)[23]? = some (.int .u32 (s.nx : Nat)) := rfl
theorem Bk.ones (s : Bk) (v : Value) (hv : v.oneCell' = true) : (s.c v).all (·.oneCell') = true := by simp [Bk.c, V.cells, Value.oneCell'] ; simpa [Value.oneCell'] using hv
theorem Rq.at0 (s : Rq) (v : Value) : (s.c v)[0]? = some (.int .u32 (s.id : Nat)) := rfl
theorem Rq.at1 (s : Rq) (v : Value) : (s.c v)[1]? = some (.int .i64 s.hd) := rfl
theorem Rq.at2 (s : Rq) (v : Value) : (s.c v)[2]? = some (.bool s.wr) := rfl
theorem Rq.at3 (s : Rq) (v : Value) : (s.c v)[3]? = some (.int .u32 (s.se : Nat)) := rfl
theorem Rq.at4 (s : Rq) (v : Value) : (s.c v)[4]? = some (.int .i64 s.n) := rfl
theorem Rq.at5 (s : Rq) (v : Value) : (s.c v)[5]? = some (v) := rfl
theorem Rq.ones (s : Rq) (v : Value) (hv : v.oneCell' = true) : (s.c v).all (·.oneCell') = true := by simp [Rq.c, Value.oneCell'] ; simpa [Value.oneCell'] using hv
theorem Ch.at0 (s : Ch) (v : Value) : (s.c v)[0]? = some (.int .i64 s.hd) := rfl
theorem Ch.at1 (s : Ch) (v : Value) : (s.c v)[1]? = some (.int .u64 (s.kd : Nat)) := rfl
theorem Ch.at2 (s : Ch) (v : Value) : (s.c v)[2]? = some (.int .u64 (s.se : Nat)) := rfl
theorem Ch.at3 (s : Ch) (v : Value) : (s.c v)[3]? = some (v) := rfl
theorem Ch.at4 (s : Ch) (v : Value) : (s.c v)[4]? = some (.int .i64 s.rd) := rfl
theorem Ch.at5 (s : Ch) (v : Value) : (s.c v)[5]? = some (.int .i64 s.wr) := rfl
theorem Ch.ones (s : Ch) (v : Value) (hv : v.oneCell' = true) : (s.c v).all (·.oneCell') = true := by simp [Ch.c, Value.oneCell'] ; simpa [Value.oneCell'] using hv
theorem Ak.at0 (s : Ak) (v : Value) : (s.c v)[0]? = some (.int .u32 (s.id : Nat)) := rfl
theorem Ak.at1 (s : Ak) (v : Value) : (s.c v)[1]? = some (.bool s.wr) := rfl
theorem Ak.at2 (s : Ak) (v : Value) : (s.c v)[2]? = some (.int .u32 (s.se : Nat)) := rfl
theorem Ak.at3 (s : Ak) (v : Value) : (s.c v)[3]? = some (.int .i64 s.n) := rfl
theorem Ak.at4 (s : Ak) (v : Value) : (s.c v)[4]? = some (v) := rfl
theorem Ak.ones (s : Ak) (v : Value) (hv : v.oneCell' = true) : (s.c v).all (·.oneCell') = true := by simp [Ak.c, Value.oneCell'] ; simpa [Value.oneCell'] using hv
theorem ext_bp (s : Bk) (v : Value) : ((s.c v).extract 0 (0 + s.p.cells.size)).toList = s.p.cells.toList := by kernel_rfl
theorem ext_br (s : Bk) (v : Value) : ((s.c v).extract 8 (8 + s.p.q0.r.cells.size)).toList = s.p.q0.r.cells.toList := by kernel_rfl
def Bk.pw (s : Bk) (p : V) : Bk := { s with p := p }
theorem putAll_bp (s : Bk) (v : Value) (p : V) : putAll (s.c v) 0 p.cells.toList = (s.pw p).c v := by kernel_rfl
theorem putAll_br (s : Bk) (v : Value) (r : Rg) : putAll (s.c v) 8 r.cells.toList = (s.ring r).c v := by kernel_rfl
theorem size_slR : (Tryz.prog.info? 51).map (·.size) = some 1 := by kernel_rfl
theorem size_slS : (Tryz.prog.info? 100).map (·.size) = some 1 := by kernel_rfl
theorem size_slB : (Tryz.prog.info? 37).map (·.size) = some 1 := by kernel_rfl
variable {ops : Array Oper} {rest : List Oper} {dst : Option Tmp} {ty : TypeId} {pos : String} {after : Array Edge} {a : Act} {w : World} {Q : Exit → Act → World → Prop} {x y : Operand} {b : Nat} {S : World → Prop} {K : Act → World → Prop} {gd : Option (Nat × Bool)}
theorem size_bk : (Tryz.prog.info? 53).map (·.size) = some 25 := by kernel_rfl
theorem zero_bk (w : World) : (zeroValue 53).run Tryz.prog w = .ok (.agg (zeroBk.c nilS)) w :=
  (zero_of_info (P := Tryz.prog) (t := 53) (v := .agg (zeroBk.c nilS)) (n := 25) (by kernel_rfl)).1 w
theorem bx_bk (N : Nat) (h : Bk) (v : Value) (hN : w.heap.size = N) (hx : a.eval x = .agg (h.c v))
    (k : ∀ W, RowAt W N (h.c v) 53 → Below N w W → Hid (W.heap.size = N + 1) → wpList Tryz.prog ops Q rest (a.put dst (.pointer (some ⟨N, 0, none⟩))) W) :
    wpList Tryz.prog ops Q (⟨dst, .box 53 x, ty, pos, after, none⟩ :: rest) a w := op_box N hN (h.c v) hx k
theorem al_bk (N : Nat) (hN : w.heap.size = N)
    (k : ∀ W, RowAt W N (zeroBk.c nilS) 53 → Below N w W → Hid (W.heap.size = N + 1) → wpList Tryz.prog ops Q rest (a.put dst (.pointer (some ⟨N, 0, none⟩))) W) :
    wpList Tryz.prog ops Q (⟨dst, .alloc 53, ty, pos, after, none⟩ :: rest) a w := op_alloc N hN (zeroBk.c nilS) zero_bk k
theorem ld_bk (b : Nat) (h : Bk) (v : Value) (hr : RowAt w b (h.c v) 53) (hx : a.eval x = .pointer (some ⟨b, 0, none⟩)) (hw : Region.wanted ⟨dst, .load 53 x, ty, pos, after, gd⟩ (yielded ops a.tmps) = true)
    (k : wpList Tryz.prog ops Q rest (a.put dst (.agg (h.c v))) w) : wpList Tryz.prog ops Q (⟨dst, .load 53 x, ty, pos, after, gd⟩ :: rest) a w :=
  BigFrame.wpList_want hw fun K hK => wp_load_row 53 x rfl b hx _ (h.c v) (0, 0) _ hr Tryz.underlying53 rfl size_bk (hK _ _ k)
theorem st_bk (b : Nat) (old : Bk) (ov : Value) (h : Bk) (v : Value) (hv : v.oneCell' = true) (hr : RowAt w b (old.c ov) 53) (hx : a.eval x = .pointer (some ⟨b, 0, none⟩)) (hy : a.eval y = .agg (h.c v))
    (k : ∀ W, RowAt W b (h.c v) 53 → Only b w W → wpList Tryz.prog ops Q rest (a.put dst undef) W) : wpList Tryz.prog ops Q (⟨dst, .store 53 x y, ty, pos, after, none⟩ :: rest) a w :=
  op_store b hx (h.c v) hy (old.c ov) _ hr size_bk rfl (h.ones v hv) k
theorem y_bk (b : Nat) (h : Bk) (v : Value) (hS : ∀ V, S V → RowAt V b (h.c v) 53) (hx : a.eval x = .pointer (some ⟨b, 0, none⟩)) (hw : Region.wanted ⟨dst, .load 53 x, ty, pos, after, gd⟩ (yielded ops a.tmps) = true) :
    YieldsIf Tryz.prog ops S ⟨dst, .load 53 x, ty, pos, after, gd⟩ (.agg (h.c v)) a := by
  rcases y_load (ops := ops) (P := Tryz.prog) (t := 53) (dst := dst) (ty := ty) (after := after) (a := a) (x := x) (pos := pos) (S := S) b (h.c v) _ hS _ Tryz.underlying53 rfl size_bk hx with ⟨_, h2⟩ | ⟨h1, _⟩
  · exact .inl ⟨hw, fun V hV => h2 V hV⟩
  · simp [Region.wanted] at h1
theorem s_bk (b : Nat) (old : Bk) (ov : Value) (h : Bk) (v : Value) (hv : v.oneCell' = true) (hr : RowAt w b (old.c ov) 53) (hx : a.eval x = .pointer (some ⟨b, 0, none⟩)) (hy : a.eval y = .agg (h.c v))
    (k : ∀ W, RowAt W b (h.c v) 53 → Only b w W → K (a.put dst undef) W) :
    Oper.wp Tryz.prog ⟨dst, .store 53 x y, ty, pos, after, none⟩ a w K Q :=
  s_store b hx (h.c v) hy (old.c ov) _ hr size_bk rfl (h.ones v hv) k
theorem size_rq : (Tryz.prog.info? 102).map (·.size) = some 6 := by kernel_rfl
theorem zero_rq (w : World) : (zeroValue 102).run Tryz.prog w = .ok (.agg (zeroRq.c nilS)) w :=
  (zero_of_info (P := Tryz.prog) (t := 102) (v := .agg (zeroRq.c nilS)) (n := 6) (by kernel_rfl)).1 w
theorem bx_rq (N : Nat) (h : Rq) (v : Value) (hN : w.heap.size = N) (hx : a.eval x = .agg (h.c v))
    (k : ∀ W, RowAt W N (h.c v) 102 → Below N w W → Hid (W.heap.size = N + 1) → wpList Tryz.prog ops Q rest (a.put dst (.pointer (some ⟨N, 0, none⟩))) W) :
    wpList Tryz.prog ops Q (⟨dst, .box 102 x, ty, pos, after, none⟩ :: rest) a w := op_box N hN (h.c v) hx k
theorem al_rq (N : Nat) (hN : w.heap.size = N)
    (k : ∀ W, RowAt W N (zeroRq.c nilS) 102 → Below N w W → Hid (W.heap.size = N + 1) → wpList Tryz.prog ops Q rest (a.put dst (.pointer (some ⟨N, 0, none⟩))) W) :
    wpList Tryz.prog ops Q (⟨dst, .alloc 102, ty, pos, after, none⟩ :: rest) a w := op_alloc N hN (zeroRq.c nilS) zero_rq k
theorem ld_rq (b : Nat) (h : Rq) (v : Value) (hr : RowAt w b (h.c v) 102) (hx : a.eval x = .pointer (some ⟨b, 0, none⟩)) (hw : Region.wanted ⟨dst, .load 102 x, ty, pos, after, gd⟩ (yielded ops a.tmps) = true)
    (k : wpList Tryz.prog ops Q rest (a.put dst (.agg (h.c v))) w) : wpList Tryz.prog ops Q (⟨dst, .load 102 x, ty, pos, after, gd⟩ :: rest) a w :=
  BigFrame.wpList_want hw fun K hK => wp_load_row 102 x rfl b hx _ (h.c v) (0, 0) _ hr Tryz.underlying102 rfl size_rq (hK _ _ k)
theorem st_rq (b : Nat) (old : Rq) (ov : Value) (h : Rq) (v : Value) (hv : v.oneCell' = true) (hr : RowAt w b (old.c ov) 102) (hx : a.eval x = .pointer (some ⟨b, 0, none⟩)) (hy : a.eval y = .agg (h.c v))
    (k : ∀ W, RowAt W b (h.c v) 102 → Only b w W → wpList Tryz.prog ops Q rest (a.put dst undef) W) : wpList Tryz.prog ops Q (⟨dst, .store 102 x y, ty, pos, after, none⟩ :: rest) a w :=
  op_store b hx (h.c v) hy (old.c ov) _ hr size_rq rfl (h.ones v hv) k
theorem s_rq (b : Nat) (old : Rq) (ov : Value) (h : Rq) (v : Value) (hv : v.oneCell' = true) (hr : RowAt w b (old.c ov) 102) (hx : a.eval x = .pointer (some ⟨b, 0, none⟩)) (hy : a.eval y = .agg (h.c v))
    (k : ∀ W, RowAt W b (h.c v) 102 → Only b w W → K (a.put dst undef) W) :
    Oper.wp Tryz.prog ⟨dst, .store 102 x y, ty, pos, after, none⟩ a w K Q :=
  s_store b hx (h.c v) hy (old.c ov) _ hr size_rq rfl (h.ones v hv) k
theorem size_ak : (Tryz.prog.info? 81).map (·.size) = some 5 := by kernel_rfl
theorem zero_ak (w : World) : (zeroValue 81).run Tryz.prog w = .ok (.agg (zeroAk.c nilS)) w :=
  (zero_of_info (P := Tryz.prog) (t := 81) (v := .agg (zeroAk.c nilS)) (n := 5) (by kernel_rfl)).1 w
theorem al_ak (N : Nat) (hN : w.heap.size = N)
    (k : ∀ W, RowAt W N (zeroAk.c nilS) 81 → Below N w W → Hid (W.heap.size = N + 1) → wpList Tryz.prog ops Q rest (a.put dst (.pointer (some ⟨N, 0, none⟩))) W) :
    wpList Tryz.prog ops Q (⟨dst, .alloc 81, ty, pos, after, none⟩ :: rest) a w := op_alloc N hN (zeroAk.c nilS) zero_ak k
theorem st_ak (b : Nat) (old : Ak) (ov : Value) (h : Ak) (v : Value) (hv : v.oneCell' = true) (hr : RowAt w b (old.c ov) 81) (hx : a.eval x = .pointer (some ⟨b, 0, none⟩)) (hy : a.eval y = .agg (h.c v))
    (k : ∀ W, RowAt W b (h.c v) 81 → Only b w W → wpList Tryz.prog ops Q rest (a.put dst undef) W) : wpList Tryz.prog ops Q (⟨dst, .store 81 x y, ty, pos, after, none⟩ :: rest) a w :=
  op_store b hx (h.c v) hy (old.c ov) _ hr size_ak rfl (h.ones v hv) k
theorem y_ak (b : Nat) (h : Ak) (v : Value) (hS : ∀ V, S V → RowAt V b (h.c v) 81) (hx : a.eval x = .pointer (some ⟨b, 0, none⟩)) (hw : Region.wanted ⟨dst, .load 81 x, ty, pos, after, gd⟩ (yielded ops a.tmps) = true) :
    YieldsIf Tryz.prog ops S ⟨dst, .load 81 x, ty, pos, after, gd⟩ (.agg (h.c v)) a := by
  rcases y_load (ops := ops) (P := Tryz.prog) (t := 81) (dst := dst) (ty := ty) (after := after) (a := a) (x := x) (pos := pos) (S := S) b (h.c v) _ hS _ Tryz.underlying81 rfl size_ak hx with ⟨_, h2⟩ | ⟨h1, _⟩
  · exact .inl ⟨hw, fun V hV => h2 V hV⟩
  · simp [Region.wanted] at h1
theorem size_ch : (Tryz.prog.info? 110).map (·.size) = some 6 := by kernel_rfl
theorem zero_ch (w : World) : (zeroValue 110).run Tryz.prog w = .ok (.agg (zeroCh.c nilS)) w :=
  (zero_of_info (P := Tryz.prog) (t := 110) (v := .agg (zeroCh.c nilS)) (n := 6) (by kernel_rfl)).1 w
theorem bx_ch (N : Nat) (h : Ch) (v : Value) (hN : w.heap.size = N) (hx : a.eval x = .agg (h.c v))
    (k : ∀ W, RowAt W N (h.c v) 110 → Below N w W → Hid (W.heap.size = N + 1) → wpList Tryz.prog ops Q rest (a.put dst (.pointer (some ⟨N, 0, none⟩))) W) :
    wpList Tryz.prog ops Q (⟨dst, .box 110 x, ty, pos, after, none⟩ :: rest) a w := op_box N hN (h.c v) hx k
theorem al_ch (N : Nat) (hN : w.heap.size = N)
    (k : ∀ W, RowAt W N (zeroCh.c nilS) 110 → Below N w W → Hid (W.heap.size = N + 1) → wpList Tryz.prog ops Q rest (a.put dst (.pointer (some ⟨N, 0, none⟩))) W) :
    wpList Tryz.prog ops Q (⟨dst, .alloc 110, ty, pos, after, none⟩ :: rest) a w := op_alloc N hN (zeroCh.c nilS) zero_ch k
theorem ld_ch (b : Nat) (h : Ch) (v : Value) (hr : RowAt w b (h.c v) 110) (hx : a.eval x = .pointer (some ⟨b, 0, none⟩)) (hw : Region.wanted ⟨dst, .load 110 x, ty, pos, after, gd⟩ (yielded ops a.tmps) = true)
    (k : wpList Tryz.prog ops Q rest (a.put dst (.agg (h.c v))) w) : wpList Tryz.prog ops Q (⟨dst, .load 110 x, ty, pos, after, gd⟩ :: rest) a w :=
  BigFrame.wpList_want hw fun K hK => wp_load_row 110 x rfl b hx _ (h.c v) (0, 0) _ hr Tryz.underlying110 rfl size_ch (hK _ _ k)
theorem st_ch (b : Nat) (old : Ch) (ov : Value) (h : Ch) (v : Value) (hv : v.oneCell' = true) (hr : RowAt w b (old.c ov) 110) (hx : a.eval x = .pointer (some ⟨b, 0, none⟩)) (hy : a.eval y = .agg (h.c v))
    (k : ∀ W, RowAt W b (h.c v) 110 → Only b w W → wpList Tryz.prog ops Q rest (a.put dst undef) W) : wpList Tryz.prog ops Q (⟨dst, .store 110 x y, ty, pos, after, none⟩ :: rest) a w :=
  op_store b hx (h.c v) hy (old.c ov) _ hr size_ch rfl (h.ones v hv) k
theorem y_ch (b : Nat) (h : Ch) (v : Value) (hS : ∀ V, S V → RowAt V b (h.c v) 110) (hx : a.eval x = .pointer (some ⟨b, 0, none⟩)) (hw : Region.wanted ⟨dst, .load 110 x, ty, pos, after, gd⟩ (yielded ops a.tmps) = true) :
    YieldsIf Tryz.prog ops S ⟨dst, .load 110 x, ty, pos, after, gd⟩ (.agg (h.c v)) a := by
  rcases y_load (ops := ops) (P := Tryz.prog) (t := 110) (dst := dst) (ty := ty) (after := after) (a := a) (x := x) (pos := pos) (S := S) b (h.c v) _ hS _ Tryz.underlying110 rfl size_ch hx with ⟨_, h2⟩ | ⟨h1, _⟩
  · exact .inl ⟨hw, fun V hV => h2 V hV⟩
  · simp [Region.wanted] at h1
theorem s_ch (b : Nat) (old : Ch) (ov : Value) (h : Ch) (v : Value) (hv : v.oneCell' = true) (hr : RowAt w b (old.c ov) 110) (hx : a.eval x = .pointer (some ⟨b, 0, none⟩)) (hy : a.eval y = .agg (h.c v))
    (k : ∀ W, RowAt W b (h.c v) 110 → Only b w W → K (a.put dst undef) W) :
    Oper.wp Tryz.prog ⟨dst, .store 110 x y, ty, pos, after, none⟩ a w K Q :=
  s_store b hx (h.c v) hy (old.c ov) _ hr size_ch rfl (h.ones v hv) k
theorem ld_bp (b : Nat) (h : Bk) (v : Value) (t' : TypeId) (hr : RowAt w b (h.c v) t') (hx : a.eval x = .pointer (some ⟨b, 0, none⟩)) (hw : Region.wanted ⟨dst, .load 50 x, ty, pos, after, gd⟩ (yielded ops a.tmps) = true)
    (k : wpList Tryz.prog ops Q rest (a.put dst (.agg h.p.cells)) w) : wpList Tryz.prog ops Q (⟨dst, .load 50 x, ty, pos, after, gd⟩ :: rest) a w :=
  BigFrame.wpList_want hw fun K hK => wp_load_mid 50 x rfl b 0 hx h.p.cells.toList _ (ext_bp h v ▸ World.rangeAt_of_block hr 0 h.p.cells.size) Tryz.underlying50 rfl size_vp (hK _ _ k)
theorem ld_br (b : Nat) (h : Bk) (v : Value) (t' : TypeId) (hr : RowAt w b (h.c v) t') (hx : a.eval x = .pointer (some ⟨b, 8, none⟩)) (hw : Region.wanted ⟨dst, .load 45 x, ty, pos, after, gd⟩ (yielded ops a.tmps) = true)
    (k : wpList Tryz.prog ops Q rest (a.put dst (.agg h.p.q0.r.cells)) w) : wpList Tryz.prog ops Q (⟨dst, .load 45 x, ty, pos, after, gd⟩ :: rest) a w :=
  BigFrame.wpList_want hw fun K hK => wp_load_mid 45 x rfl b 8 hx h.p.q0.r.cells.toList _ (ext_br h v ▸ World.rangeAt_of_block hr 8 h.p.q0.r.cells.size) Tryz.underlying45 rfl size_rp (hK _ _ k)
theorem st_bp (b : Nat) (h : Bk) (v : Value) (f : V) (t' : TypeId) (hr : RowAt w b (h.c v) t') (hx : a.eval x = .pointer (some ⟨b, 0, none⟩)) (hy : a.eval y = .agg f.cells)
    (k : ∀ W, RowAt W b ((h.pw f).c v) t' → Only b w W → wpList Tryz.prog ops Q rest (a.put dst undef) W) : wpList Tryz.prog ops Q (⟨dst, .store 50 x y, ty, pos, after, none⟩ :: rest) a w :=
  op_store_mid b 0 hx f.cells hy (h.c v) _ _ hr size_vp (by show 0 + 21 ≤ 25; decide) (vi_one f) (putAll_bp h v f) k
theorem st_br (b : Nat) (h : Bk) (v : Value) (f : Rg) (t' : TypeId) (hr : RowAt w b (h.c v) t') (hx : a.eval x = .pointer (some ⟨b, 8, none⟩)) (hy : a.eval y = .agg f.cells)
    (k : ∀ W, RowAt W b ((h.ring f).c v) t' → Only b w W → wpList Tryz.prog ops Q rest (a.put dst undef) W) : wpList Tryz.prog ops Q (⟨dst, .store 45 x y, ty, pos, after, none⟩ :: rest) a w :=
  op_store_mid b 8 hx f.cells hy (h.c v) _ _ hr size_rp (by show 8 + 6 ≤ 25; decide) (rg_one f) (putAll_br h v f) k
theorem ld_bst (b : Nat) (h : Bk) (v : Value) (t' : TypeId) (hr : RowAt w b (h.c v) t') (hx : a.eval x = .pointer (some ⟨b, 0, none⟩)) (hw : Region.wanted ⟨dst, .load 22 x, ty, pos, after, gd⟩ (yielded ops a.tmps) = true)
    (k : wpList Tryz.prog ops Q rest (a.put dst (.int .u32 (h.p.st : Nat))) w) : wpList Tryz.prog ops Q (⟨dst, .load 22 x, ty, pos, after, gd⟩ :: rest) a w :=
  op_load_cellg b 0 hx (h.c v) _ _ hr rfl _ Tryz.underlying22 rfl hw k
theorem ld_brd (b : Nat) (h : Bk) (v : Value) (t' : TypeId) (hr : RowAt w b (h.c v) t') (hx : a.eval x = .pointer (some ⟨b, 7, none⟩)) (hw : Region.wanted ⟨dst, .load 4 x, ty, pos, after, gd⟩ (yielded ops a.tmps) = true)
    (k : wpList Tryz.prog ops Q rest (a.put dst (.bool h.p.q0.rd)) w) : wpList Tryz.prog ops Q (⟨dst, .load 4 x, ty, pos, after, gd⟩ :: rest) a w :=
  op_load_cellg b 7 hx (h.c v) _ _ hr rfl _ Tryz.underlying4 rfl hw k
theorem ld_bsc (b : Nat) (h : Bk) (v : Value) (t' : TypeId) (hr : RowAt w b (h.c v) t') (hx : a.eval x = .pointer (some ⟨b, 21, none⟩)) (hw : Region.wanted ⟨dst, .load 22 x, ty, pos, after, gd⟩ (yielded ops a.tmps) = true)
    (k : wpList Tryz.prog ops Q rest (a.put dst (.int .u32 (h.sc : Nat))) w) : wpList Tryz.prog ops Q (⟨dst, .load 22 x, ty, pos, after, gd⟩ :: rest) a w :=
  op_load_cellg b 21 hx (h.c v) _ _ hr rfl _ Tryz.underlying22 rfl hw k
theorem y_bsc (b : Nat) (h : Bk) (v : Value) (t' : TypeId) (hS : ∀ V, S V → RowAt V b (h.c v) t') (hx : a.eval x = .pointer (some ⟨b, 21, none⟩)) :
    YieldsIf Tryz.prog ops S ⟨dst, .load 22 x, ty, pos, after, none⟩ (.int .u32 (h.sc : Nat)) a := y_cell b 21 _ (fun V hV => ((hS V hV).cell 21).trans rfl) _ Tryz.underlying22 rfl hx
theorem ld_bbe (b : Nat) (h : Bk) (v : Value) (t' : TypeId) (hr : RowAt w b (h.c v) t') (hx : a.eval x = .pointer (some ⟨b, 22, none⟩)) (hw : Region.wanted ⟨dst, .load 4 x, ty, pos, after, gd⟩ (yielded ops a.tmps) = true)
    (k : wpList Tryz.prog ops Q rest (a.put dst (.bool h.be)) w) : wpList Tryz.prog ops Q (⟨dst, .load 4 x, ty, pos, after, gd⟩ :: rest) a w :=
  op_load_cellg b 22 hx (h.c v) _ _ hr rfl _ Tryz.underlying4 rfl hw k
theorem st_bbe (b : Nat) (h : Bk) (v : Value) (n : Bool) (t' : TypeId) (hr : RowAt w b (h.c v) t') (hx : a.eval x = .pointer (some ⟨b, 22, none⟩)) (hy : a.eval y = .bool n)
    (k : ∀ W, RowAt W b (({ h with be := n } : Bk).c v) t' → Only b w W → wpList Tryz.prog ops Q rest (a.put dst undef) W) : wpList Tryz.prog ops Q (⟨dst, .store 4 x y, ty, pos, after, none⟩ :: rest) a w :=
  op_store_cell b 22 hx _ hy (h.c v) _ _ hr size_boi (by show 22 < 25; decide) rfl rfl k
theorem ld_bnx (b : Nat) (h : Bk) (v : Value) (t' : TypeId) (hr : RowAt w b (h.c v) t') (hx : a.eval x = .pointer (some ⟨b, 23, none⟩)) (hw : Region.wanted ⟨dst, .load 22 x, ty, pos, after, gd⟩ (yielded ops a.tmps) = true)
    (k : wpList Tryz.prog ops Q rest (a.put dst (.int .u32 (h.nx : Nat))) w) : wpList Tryz.prog ops Q (⟨dst, .load 22 x, ty, pos, after, gd⟩ :: rest) a w :=
  op_load_cellg b 23 hx (h.c v) _ _ hr rfl _ Tryz.underlying22 rfl hw k
theorem y_bnx (b : Nat) (h : Bk) (v : Value) (t' : TypeId) (hS : ∀ V, S V → RowAt V b (h.c v) t') (hx : a.eval x = .pointer (some ⟨b, 23, none⟩)) :
    YieldsIf Tryz.prog ops S ⟨dst, .load 22 x, ty, pos, after, none⟩ (.int .u32 (h.nx : Nat)) a := y_cell b 23 _ (fun V hV => ((hS V hV).cell 23).trans rfl) _ Tryz.underlying22 rfl hx
theorem st_bnx (b : Nat) (h : Bk) (v : Value) (n : Nat) (t' : TypeId) (hr : RowAt w b (h.c v) t') (hx : a.eval x = .pointer (some ⟨b, 23, none⟩)) (hy : a.eval y = .int .u32 (n : Nat))
    (k : ∀ W, RowAt W b (({ h with nx := n } : Bk).c v) t' → Only b w W → wpList Tryz.prog ops Q rest (a.put dst undef) W) : wpList Tryz.prog ops Q (⟨dst, .store 22 x y, ty, pos, after, none⟩ :: rest) a w :=
  op_store_cell b 23 hx _ hy (h.c v) _ _ hr size_u32i (by show 23 < 25; decide) rfl rfl k
theorem ld_bin (b : Nat) (h : Bk) (v : Value) (t' : TypeId) (hr : RowAt w b (h.c v) t') (hx : a.eval x = .pointer (some ⟨b, 24, none⟩)) (hw : Region.wanted ⟨dst, .load 51 x, ty, pos, after, gd⟩ (yielded ops a.tmps) = true)
    (k : wpList Tryz.prog ops Q rest (a.put dst (v)) w) : wpList Tryz.prog ops Q (⟨dst, .load 51 x, ty, pos, after, gd⟩ :: rest) a w :=
  op_load_cellg b 24 hx (h.c v) _ _ hr rfl _ Tryz.underlying51 rfl hw k
theorem y_bin (b : Nat) (h : Bk) (v : Value) (t' : TypeId) (hS : ∀ V, S V → RowAt V b (h.c v) t') (hx : a.eval x = .pointer (some ⟨b, 24, none⟩)) :
    YieldsIf Tryz.prog ops S ⟨dst, .load 51 x, ty, pos, after, none⟩ (v) a := y_cell b 24 _ (fun V hV => ((hS V hV).cell 24).trans rfl) _ Tryz.underlying51 rfl hx
theorem st_bin (b : Nat) (h : Bk) (v : Value) (n : Value) (hn : n.oneCell' = true) (t' : TypeId) (hr : RowAt w b (h.c v) t') (hx : a.eval x = .pointer (some ⟨b, 24, none⟩)) (hy : a.eval y = n)
    (k : ∀ W, RowAt W b (h.c n) t' → Only b w W → wpList Tryz.prog ops Q rest (a.put dst undef) W) : wpList Tryz.prog ops Q (⟨dst, .store 51 x y, ty, pos, after, none⟩ :: rest) a w :=
  op_store_cell b 24 hx _ hy (h.c v) _ _ hr size_slR (by show 24 < 25; decide) hn rfl k
theorem ld_qid (b : Nat) (h : Rq) (v : Value) (t' : TypeId) (hr : RowAt w b (h.c v) t') (hx : a.eval x = .pointer (some ⟨b, 0, none⟩)) (hw : Region.wanted ⟨dst, .load 22 x, ty, pos, after, gd⟩ (yielded ops a.tmps) = true)
    (k : wpList Tryz.prog ops Q rest (a.put dst (.int .u32 (h.id : Nat))) w) : wpList Tryz.prog ops Q (⟨dst, .load 22 x, ty, pos, after, gd⟩ :: rest) a w :=
  op_load_cellg b 0 hx (h.c v) _ _ hr rfl _ Tryz.underlying22 rfl hw k
theorem ld_qhd (b : Nat) (h : Rq) (v : Value) (t' : TypeId) (hr : RowAt w b (h.c v) t') (hx : a.eval x = .pointer (some ⟨b, 1, none⟩)) (hw : Region.wanted ⟨dst, .load 3 x, ty, pos, after, gd⟩ (yielded ops a.tmps) = true)
    (k : wpList Tryz.prog ops Q rest (a.put dst (.int .i64 h.hd)) w) : wpList Tryz.prog ops Q (⟨dst, .load 3 x, ty, pos, after, gd⟩ :: rest) a w :=
  op_load_cellg b 1 hx (h.c v) _ _ hr rfl _ Tryz.underlying3 rfl hw k
theorem y_qhd (b : Nat) (h : Rq) (v : Value) (t' : TypeId) (hS : ∀ V, S V → RowAt V b (h.c v) t') (hx : a.eval x = .pointer (some ⟨b, 1, none⟩)) :
    YieldsIf Tryz.prog ops S ⟨dst, .load 3 x, ty, pos, after, none⟩ (.int .i64 h.hd) a := y_cell b 1 _ (fun V hV => ((hS V hV).cell 1).trans rfl) _ Tryz.underlying3 rfl hx
theorem ld_qwr (b : Nat) (h : Rq) (v : Value) (t' : TypeId) (hr : RowAt w b (h.c v) t') (hx : a.eval x = .pointer (some ⟨b, 2, none⟩)) (hw : Region.wanted ⟨dst, .load 4 x, ty, pos, after, gd⟩ (yielded ops a.tmps) = true)
    (k : wpList Tryz.prog ops Q rest (a.put dst (.bool h.wr)) w) : wpList Tryz.prog ops Q (⟨dst, .load 4 x, ty, pos, after, gd⟩ :: rest) a w :=
  op_load_cellg b 2 hx (h.c v) _ _ hr rfl _ Tryz.underlying4 rfl hw k
theorem ld_qse (b : Nat) (h : Rq) (v : Value) (t' : TypeId) (hr : RowAt w b (h.c v) t') (hx : a.eval x = .pointer (some ⟨b, 3, none⟩)) (hw : Region.wanted ⟨dst, .load 22 x, ty, pos, after, gd⟩ (yielded ops a.tmps) = true)
    (k : wpList Tryz.prog ops Q rest (a.put dst (.int .u32 (h.se : Nat))) w) : wpList Tryz.prog ops Q (⟨dst, .load 22 x, ty, pos, after, gd⟩ :: rest) a w :=
  op_load_cellg b 3 hx (h.c v) _ _ hr rfl _ Tryz.underlying22 rfl hw k
theorem ld_qn (b : Nat) (h : Rq) (v : Value) (t' : TypeId) (hr : RowAt w b (h.c v) t') (hx : a.eval x = .pointer (some ⟨b, 4, none⟩)) (hw : Region.wanted ⟨dst, .load 3 x, ty, pos, after, gd⟩ (yielded ops a.tmps) = true)
    (k : wpList Tryz.prog ops Q rest (a.put dst (.int .i64 h.n)) w) : wpList Tryz.prog ops Q (⟨dst, .load 3 x, ty, pos, after, gd⟩ :: rest) a w :=
  op_load_cellg b 4 hx (h.c v) _ _ hr rfl _ Tryz.underlying3 rfl hw k
theorem ld_ql (b : Nat) (h : Rq) (v : Value) (t' : TypeId) (hr : RowAt w b (h.c v) t') (hx : a.eval x = .pointer (some ⟨b, 5, none⟩)) (hw : Region.wanted ⟨dst, .load 100 x, ty, pos, after, gd⟩ (yielded ops a.tmps) = true)
    (k : wpList Tryz.prog ops Q rest (a.put dst (v)) w) : wpList Tryz.prog ops Q (⟨dst, .load 100 x, ty, pos, after, gd⟩ :: rest) a w :=
  op_load_cellg b 5 hx (h.c v) _ _ hr rfl _ Tryz.underlying100 rfl hw k
theorem y_ql (b : Nat) (h : Rq) (v : Value) (t' : TypeId) (hS : ∀ V, S V → RowAt V b (h.c v) t') (hx : a.eval x = .pointer (some ⟨b, 5, none⟩)) :
    YieldsIf Tryz.prog ops S ⟨dst, .load 100 x, ty, pos, after, none⟩ (v) a := y_cell b 5 _ (fun V hV => ((hS V hV).cell 5).trans rfl) _ Tryz.underlying100 rfl hx
theorem st_ada (b : Nat) (h : Ak) (v : Value) (n : Value) (hn : n.oneCell' = true) (t' : TypeId) (hr : RowAt w b (h.c v) t') (hx : a.eval x = .pointer (some ⟨b, 4, none⟩)) (hy : a.eval y = n)
    (k : ∀ W, RowAt W b (h.c n) t' → Only b w W → wpList Tryz.prog ops Q rest (a.put dst undef) W) : wpList Tryz.prog ops Q (⟨dst, .store 37 x y, ty, pos, after, none⟩ :: rest) a w :=
  op_store_cell b 4 hx _ hy (h.c v) _ _ hr size_slB (by show 4 < 5; decide) hn rfl k
theorem ld_chd (b : Nat) (h : Ch) (v : Value) (t' : TypeId) (hr : RowAt w b (h.c v) t') (hx : a.eval x = .pointer (some ⟨b, 0, none⟩)) (hw : Region.wanted ⟨dst, .load 3 x, ty, pos, after, gd⟩ (yielded ops a.tmps) = true)
    (k : wpList Tryz.prog ops Q rest (a.put dst (.int .i64 h.hd)) w) : wpList Tryz.prog ops Q (⟨dst, .load 3 x, ty, pos, after, gd⟩ :: rest) a w :=
  op_load_cellg b 0 hx (h.c v) _ _ hr rfl _ Tryz.underlying3 rfl hw k
theorem y_chd (b : Nat) (h : Ch) (v : Value) (t' : TypeId) (hS : ∀ V, S V → RowAt V b (h.c v) t') (hx : a.eval x = .pointer (some ⟨b, 0, none⟩)) :
    YieldsIf Tryz.prog ops S ⟨dst, .load 3 x, ty, pos, after, none⟩ (.int .i64 h.hd) a := y_cell b 0 _ (fun V hV => ((hS V hV).cell 0).trans rfl) _ Tryz.underlying3 rfl hx
theorem ld_ckd (b : Nat) (h : Ch) (v : Value) (t' : TypeId) (hr : RowAt w b (h.c v) t') (hx : a.eval x = .pointer (some ⟨b, 1, none⟩)) (hw : Region.wanted ⟨dst, .load 108 x, ty, pos, after, gd⟩ (yielded ops a.tmps) = true)
    (k : wpList Tryz.prog ops Q rest (a.put dst (.int .u64 (h.kd : Nat))) w) : wpList Tryz.prog ops Q (⟨dst, .load 108 x, ty, pos, after, gd⟩ :: rest) a w :=
  op_load_cellg b 1 hx (h.c v) _ _ hr rfl _ Tryz.underlying108 rfl hw k
theorem y_ckd (b : Nat) (h : Ch) (v : Value) (t' : TypeId) (hS : ∀ V, S V → RowAt V b (h.c v) t') (hx : a.eval x = .pointer (some ⟨b, 1, none⟩)) :
    YieldsIf Tryz.prog ops S ⟨dst, .load 108 x, ty, pos, after, none⟩ (.int .u64 (h.kd : Nat)) a := y_cell b 1 _ (fun V hV => ((hS V hV).cell 1).trans rfl) _ Tryz.underlying108 rfl hx
theorem y_cse (b : Nat) (h : Ch) (v : Value) (t' : TypeId) (hS : ∀ V, S V → RowAt V b (h.c v) t') (hx : a.eval x = .pointer (some ⟨b, 2, none⟩)) :
    YieldsIf Tryz.prog ops S ⟨dst, .load 108 x, ty, pos, after, none⟩ (.int .u64 (h.se : Nat)) a := y_cell b 2 _ (fun V hV => ((hS V hV).cell 2).trans rfl) _ Tryz.underlying108 rfl hx
theorem ld_cps (b : Nat) (h : Ch) (v : Value) (t' : TypeId) (hr : RowAt w b (h.c v) t') (hx : a.eval x = .pointer (some ⟨b, 3, none⟩)) (hw : Region.wanted ⟨dst, .load 100 x, ty, pos, after, gd⟩ (yielded ops a.tmps) = true)
    (k : wpList Tryz.prog ops Q rest (a.put dst (v)) w) : wpList Tryz.prog ops Q (⟨dst, .load 100 x, ty, pos, after, gd⟩ :: rest) a w :=
  op_load_cellg b 3 hx (h.c v) _ _ hr rfl _ Tryz.underlying100 rfl hw k
theorem y_cps (b : Nat) (h : Ch) (v : Value) (t' : TypeId) (hS : ∀ V, S V → RowAt V b (h.c v) t') (hx : a.eval x = .pointer (some ⟨b, 3, none⟩)) :
    YieldsIf Tryz.prog ops S ⟨dst, .load 100 x, ty, pos, after, none⟩ (v) a := y_cell b 3 _ (fun V hV => ((hS V hV).cell 3).trans rfl) _ Tryz.underlying100 rfl hx
theorem ld_crd (b : Nat) (h : Ch) (v : Value) (t' : TypeId) (hr : RowAt w b (h.c v) t') (hx : a.eval x = .pointer (some ⟨b, 4, none⟩)) (hw : Region.wanted ⟨dst, .load 3 x, ty, pos, after, gd⟩ (yielded ops a.tmps) = true)
    (k : wpList Tryz.prog ops Q rest (a.put dst (.int .i64 h.rd)) w) : wpList Tryz.prog ops Q (⟨dst, .load 3 x, ty, pos, after, gd⟩ :: rest) a w :=
  op_load_cellg b 4 hx (h.c v) _ _ hr rfl _ Tryz.underlying3 rfl hw k
theorem ld_cwr (b : Nat) (h : Ch) (v : Value) (t' : TypeId) (hr : RowAt w b (h.c v) t') (hx : a.eval x = .pointer (some ⟨b, 5, none⟩)) (hw : Region.wanted ⟨dst, .load 3 x, ty, pos, after, gd⟩ (yielded ops a.tmps) = true)
    (k : wpList Tryz.prog ops Q rest (a.put dst (.int .i64 h.wr)) w) : wpList Tryz.prog ops Q (⟨dst, .load 3 x, ty, pos, after, gd⟩ :: rest) a w :=
  op_load_cellg b 5 hx (h.c v) _ _ hr rfl _ Tryz.underlying3 rfl hw k
end Go.Proofs.YtaaiockiojejeaaGreatDoor
namespace Go.Proofs.YtaaiockiojejeaaGreatDoor
open Go.RowKit
set_option linter.unusedVariables false
set_option linter.unusedSimpArgs false

variable {ops : Array Oper} {rest : List Oper} {dst : Option Tmp} {ty : TypeId} {pos : String} {after : Array Edge} {a : Act} {w : World} {Q : Exit → Act → World → Prop} {x y : Operand} {B : Nat} {v : Value} {gd : Option (Nat × Bool)}
theorem info_r : ∃ i, Tryz.prog.info? 102 = some i ∧ i.zero = some (.agg (zeroRq.c nilS)) ∧ i.size = 6 ∧ i.bytes = 56 := info_parts (P := Tryz.prog) (e := 102) (z := .agg (zeroRq.c nilS)) (size := 6) (bytes := 56) (by kernel_rfl)
theorem app_r (l : List (Rq × Value)) (g : Rq × Value) (h1 : g.2.oneCell' = true) (n : Nat) (hn : l.length = n) (hown : w.ownsRow B 102 6 v n (reqL l)) (s : Nat) (hs : RowAt w s (g.1.c g.2) 102) (hl : n ≤ 1000000) (hB : B ≤ w.heap.size) (hx : a.eval x = v) (hy : a.eval y = .slice (some ⟨s, 0, none⟩) 1 1)
    (k : ∀ W v', W.ownsRow B 102 6 v' (n + 1) (reqL (l ++ [g])) → w.grownBy W v.ownBlock → (v'.ownBlock = v.ownBlock ∨ v'.ownBlock = some w.heap.size) → wpList Tryz.prog ops Q rest (a.put dst v') W) :
    wpList Tryz.prog ops Q (⟨dst, .call { callee := .builtin .append, args := #[x, y], argTypes := #[51, 51] }, 51, pos, after, none⟩ :: rest) a w := by
  obtain ⟨i, q1, q2, q3, q4⟩ := info_r
  refine op_appl 51 102 i _ 6 56 Tryz.underlying51 q1 q2 q3 q4 rfl (by decide) hown ⟨s, 0, none⟩ 1 1 (reqL [g]) (by rw [reqL_len]; rfl) ?_ (reqL_ones _ (fun y hy => by rw [List.mem_singleton.1 hy]; exact h1)) (by unfold maxLen; omega) (by omega) hB hx hy ?_
  · intro j u hu
    rw [Addr.add_lit, Nat.zero_add, hs.cell, ← Array.getElem?_toList]
    rwa [reqL_one] at hu
  · intro W v' q1 q2 q3
    rw [← reqL_app] at q1
    exact k W v' q1 q2 q3
theorem bs_r (N : Nat) (hN : w.heap.size = N) (g : Rq) (u : Value) (h1 : BuiltR Tryz.prog 102 1 [(0, .agg (g.c u))] (g.c u)) (hx : a.eval x = .agg (g.c u))
    (k : ∀ W, RowAt W N (g.c u) 102 → Below N w W → Hid (W.heap.size = N + 1) → wpList Tryz.prog ops Q rest (a.put dst (.slice (some ⟨N, 0, none⟩) 1 1)) W) :
    wpList Tryz.prog ops Q (⟨dst, .buildSlice 51 1 #[(0, x)], ty, pos, after, none⟩ :: rest) a w :=
  op_bsn 51 102 1 Tryz.underlying51 (g.c u) N hN [(0, .agg (g.c u))] (by simp [hx]) h1 k
theorem mid_r {cur : Array Value} {l : List (Rq × Value)} {m k : Nat} {d : Rq × Value} (ht : cur.toList.take m = reqL l) (hk : l[k]? = some d) : (cur.extract (k * 6) (k * 6 + (d.1.c d.2).size)).toList = (d.1.c d.2).toList :=
  mid_of ht (fun i hi => reqL_at l k d hk i hi)
theorem ld_rm (b j : Nat) (d : Rq) (u : Value) (cur : Array Value) (t' : TypeId) (hr : RowAt w b cur t') (hm : (cur.extract j (j + (d.c u).size)).toList = (d.c u).toList) (hx : a.eval x = .pointer (some ⟨b, j, none⟩))
    (k : wpList Tryz.prog ops Q rest (a.put dst (.agg (d.c u))) w) : wpList Tryz.prog ops Q (⟨dst, .load 102 x, ty, pos, after, none⟩ :: rest) a w :=
  op_load_mid b j hx cur (d.c u) _ hr hm _ Tryz.underlying102 rfl size_rq k
theorem info_a : ∃ i, Tryz.prog.info? 81 = some i ∧ i.zero = some (.agg (zeroAk.c nilS)) ∧ i.size = 5 ∧ i.bytes = 48 := info_parts (P := Tryz.prog) (e := 81) (z := .agg (zeroAk.c nilS)) (size := 5) (bytes := 48) (by kernel_rfl)
/-- A fresh row of nothing. -/
theorem own_empty {W : World} {N e sz : Nat} (hr : RowAt W N #[] e) : W.ownsRow N e sz (.slice (some ⟨N, 0, none⟩) 0 0) 0 [] :=
  ⟨by simp, .inr ⟨N, 0, #[], rfl, Nat.le_refl _, hr, Nat.le_refl _, Nat.zero_le _, by simp, by simp⟩⟩
set_option maxRecDepth 100000 in
set_option maxHeartbeats 1000000 in
theorem cloned_r (n : Nat) (xs : List Value) (h1 : ∀ u ∈ xs, u.oneCell' = true) (hn : n ≤ 100000000) (w : World) (so : Option Addr) (cap : Nat) (hs0 : so = none → n = 0) (hlen : xs.length = n * 6) (hsrc : ∀ s, so = some s → ∀ j u, xs[j]? = some u → w.cell? (s.add j) = some u) :
    Calls Tryz.prog 63 #[.slice so n cap] w fun e w' => ∃ v', e = .returned v' ∧ w'.ownsRow w.heap.size 102 6 v' n xs ∧ Below w.heap.size w w' := by
  have hq := fun w a n c => Lib.run_eql_slice_nil (P := Tryz.prog) w 51 102 a n c 0 0 Tryz.underlying51
  cases so with
  | none =>
    have hn0 := hs0 rfl
    subst hn0
    have hx0 : xs = [] := List.eq_nil_of_length_eq_zero (by omega)
    subst hx0
    clear hsrc
    go_enter Tryz.func63, Tryz.ntmps63
    go_wp2
    go_ret
    exact ⟨_, rfl, World.ownsRow_nil _ _ _ _, Below.refl _ _⟩
  | some s =>
    obtain ⟨i, q1, q2, q3, q4⟩ := info_r
    have HS := hide (hsrc s rfl)
    have HX := hide (And.intro h1 hlen)
    clear hsrc h1 hlen
    go_enter Tryz.func63, Tryz.ntmps63
    have hr := RowAt.new w w.heap.size #[] 102 rfl
    have hb : Below w.heap.size w (w.alloc (.cells #[] 102)) := below_one w _
    have HR := hide hr
    have HY : Hid (0 + n ≤ maxLen ∧ (0 + n) * 56 ≤ 140737488355328) := hide ⟨by unfold maxLen; omega, by omega⟩
    have HB := hide hb
    clear hr hb
    go_wp2_with (first | ((with_reducible refine op_appl (B := w.heap.size) 51 102 i _ 6 56 Tryz.underlying51 q1 q2 q3 q4 rfl (by decide) (own_empty HR.out) s n cap xs HX.out.2 (fun j u hu => Lib.cell?_alloc_some _ (HS.out j u hu)) HX.out.1 HY.out.1 HY.out.2 HB.out.size ?_ ?_ ?_); exact rfl; exact rfl; intro W2 v2 ho hg hbk))
    go_ret
    exact ⟨v2, rfl, by simpa using ho, HB.out.grown hg HB.out.size (by intro x hx; cases hx; exact Nat.le_refl _)⟩
theorem clone_r (n : Nat) (xs : List Value) (h1 : ∀ u ∈ xs, u.oneCell' = true) (hn : n ≤ 100000000) {w : World} {B : Nat} {v : Value} (hL : w.ownsRow B 102 6 v n xs) :
    Calls Tryz.prog 63 #[v] w fun e w' => ∃ v', e = .returned v' ∧ w'.ownsRow w.heap.size 102 6 v' n xs ∧ Below w.heap.size w w' := by
  have hlen := hL.1
  have hc := fun g => hL.cells (g := g)
  rcases hL.2 with ⟨e1, e2⟩ | ⟨g, cap, cur, e1, _⟩
  · subst e1; subst e2
    exact cloned_r 0 xs h1 (by omega) w none 0 (fun _ => rfl) hlen (fun s e => by cases e)
  · subst e1
    exact cloned_r n xs h1 hn w (some ⟨g, 0, none⟩) cap (fun e => by cases e) hlen (fun s e j u hu => by cases e; exact hc g rfl j u hu)
set_option maxRecDepth 100000 in
set_option maxHeartbeats 1000000 in
theorem cloned_s (n : Nat) (xs : List Value) (h1 : ∀ u ∈ xs, u.oneCell' = true) (hn : n ≤ 100000000) (w : World) (so : Option Addr) (cap : Nat) (hs0 : so = none → n = 0) (hlen : xs.length = n * 3) (hsrc : ∀ s, so = some s → ∀ j u, xs[j]? = some u → w.cell? (s.add j) = some u) :
    Calls Tryz.prog 64 #[.slice so n cap] w fun e w' => ∃ v', e = .returned v' ∧ w'.ownsRow w.heap.size 103 3 v' n xs ∧ Below w.heap.size w w' := by
  have hq := fun w a n c => Lib.run_eql_slice_nil (P := Tryz.prog) w 100 103 a n c 0 0 Tryz.underlying100
  cases so with
  | none =>
    have hn0 := hs0 rfl
    subst hn0
    have hx0 : xs = [] := List.eq_nil_of_length_eq_zero (by omega)
    subst hx0
    clear hsrc
    go_enter Tryz.func64, Tryz.ntmps64
    go_wp2
    go_ret
    exact ⟨_, rfl, World.ownsRow_nil _ _ _ _, Below.refl _ _⟩
  | some s =>
    obtain ⟨i, q1, q2, q3, q4⟩ := info_s
    have HS := hide (hsrc s rfl)
    have HX := hide (And.intro h1 hlen)
    clear hsrc h1 hlen
    go_enter Tryz.func64, Tryz.ntmps64
    have hr := RowAt.new w w.heap.size #[] 103 rfl
    have hb : Below w.heap.size w (w.alloc (.cells #[] 103)) := below_one w _
    have HR := hide hr
    have HY : Hid (0 + n ≤ maxLen ∧ (0 + n) * 24 ≤ 140737488355328) := hide ⟨by unfold maxLen; omega, by omega⟩
    have HB := hide hb
    clear hr hb
    go_wp2_with (first | ((with_reducible refine op_appl (B := w.heap.size) 100 103 i _ 3 24 Tryz.underlying100 q1 q2 q3 q4 rfl (by decide) (own_empty HR.out) s n cap xs HX.out.2 (fun j u hu => Lib.cell?_alloc_some _ (HS.out j u hu)) HX.out.1 HY.out.1 HY.out.2 HB.out.size ?_ ?_ ?_); exact rfl; exact rfl; intro W2 v2 ho hg hbk))
    go_ret
    exact ⟨v2, rfl, by simpa using ho, HB.out.grown hg HB.out.size (by intro x hx; cases hx; exact Nat.le_refl _)⟩
theorem clone_s (n : Nat) (xs : List Value) (h1 : ∀ u ∈ xs, u.oneCell' = true) (hn : n ≤ 100000000) {w : World} {B : Nat} {v : Value} (hL : w.ownsRow B 103 3 v n xs) :
    Calls Tryz.prog 64 #[v] w fun e w' => ∃ v', e = .returned v' ∧ w'.ownsRow w.heap.size 103 3 v' n xs ∧ Below w.heap.size w w' := by
  have hlen := hL.1
  have hc := fun g => hL.cells (g := g)
  rcases hL.2 with ⟨e1, e2⟩ | ⟨g, cap, cur, e1, _⟩
  · subst e1; subst e2
    exact cloned_s 0 xs h1 (by omega) w none 0 (fun _ => rfl) hlen (fun s e => by cases e)
  · subst e1
    exact cloned_s n xs h1 hn w (some ⟨g, 0, none⟩) cap (fun e => by cases e) hlen (fun s e j u hu => by cases e; exact hc g rfl j u hu)
set_option maxRecDepth 100000 in
set_option maxHeartbeats 1000000 in
theorem cloned_b (n : Nat) (xs : List Value) (h1 : ∀ u ∈ xs, u.oneCell' = true) (hn : n ≤ 100000000) (w : World) (so : Option Addr) (cap : Nat) (hs0 : so = none → n = 0) (hlen : xs.length = n * 1) (hsrc : ∀ s, so = some s → ∀ j u, xs[j]? = some u → w.cell? (s.add j) = some u) :
    Calls Tryz.prog 52 #[.slice so n cap] w fun e w' => ∃ v', e = .returned v' ∧ w'.ownsRow w.heap.size 5 1 v' n xs ∧ Below w.heap.size w w' := by
  have hq := fun w a n c => Lib.run_eql_slice_nil (P := Tryz.prog) w 37 5 a n c 0 0 Tryz.underlying37
  cases so with
  | none =>
    have hn0 := hs0 rfl
    subst hn0
    have hx0 : xs = [] := List.eq_nil_of_length_eq_zero (by omega)
    subst hx0
    clear hsrc
    go_enter Tryz.func52, Tryz.ntmps52
    go_wp2
    go_ret
    exact ⟨_, rfl, World.ownsRow_nil _ _ _ _, Below.refl _ _⟩
  | some s =>
    obtain ⟨i, q1, q2, q3, q4⟩ := info_b
    have HS := hide (hsrc s rfl)
    have HX := hide (And.intro h1 hlen)
    clear hsrc h1 hlen
    go_enter Tryz.func52, Tryz.ntmps52
    have hr := RowAt.new w w.heap.size #[] 5 rfl
    have hb : Below w.heap.size w (w.alloc (.cells #[] 5)) := below_one w _
    have HR := hide hr
    have HY : Hid (0 + n ≤ maxLen ∧ (0 + n) * 1 ≤ 140737488355328) := hide ⟨by unfold maxLen; omega, by omega⟩
    have HB := hide hb
    clear hr hb
    go_wp2_with (first | ((with_reducible refine op_appl (B := w.heap.size) 37 5 i _ 1 1 Tryz.underlying37 q1 q2 q3 q4 rfl (by decide) (own_empty HR.out) s n cap xs HX.out.2 (fun j u hu => Lib.cell?_alloc_some _ (HS.out j u hu)) HX.out.1 HY.out.1 HY.out.2 HB.out.size ?_ ?_ ?_); exact rfl; exact rfl; intro W2 v2 ho hg hbk))
    go_ret
    exact ⟨v2, rfl, by simpa using ho, HB.out.grown hg HB.out.size (by intro x hx; cases hx; exact Nat.le_refl _)⟩
theorem clone_b (n : Nat) (xs : List Value) (h1 : ∀ u ∈ xs, u.oneCell' = true) (hn : n ≤ 100000000) {w : World} {B : Nat} {v : Value} (hL : w.ownsRow B 5 1 v n xs) :
    Calls Tryz.prog 52 #[v] w fun e w' => ∃ v', e = .returned v' ∧ w'.ownsRow w.heap.size 5 1 v' n xs ∧ Below w.heap.size w w' := by
  have hlen := hL.1
  have hc := fun g => hL.cells (g := g)
  rcases hL.2 with ⟨e1, e2⟩ | ⟨g, cap, cur, e1, _⟩
  · subst e1; subst e2
    exact cloned_b 0 xs h1 (by omega) w none 0 (fun _ => rfl) hlen (fun s e => by cases e)
  · subst e1
    exact cloned_b n xs h1 hn w (some ⟨g, 0, none⟩) cap (fun e => by cases e) hlen (fun s e j u hu => by cases e; exact hc g rfl j u hu)
end Go.Proofs.YtaaiockiojejeaaGreatDoor
