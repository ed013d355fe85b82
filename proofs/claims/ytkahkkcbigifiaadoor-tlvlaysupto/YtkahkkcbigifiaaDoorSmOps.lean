/-
  Operations on structs in blocks of their own, as a walk meets them: behind each the world is a letter, and what lies in its blocks is told. Of no package.
-/
import Derived.Test.YtkahkkcbigifiaaDoorRow
import Derived.Deep.MidRow
import Derived.Laws.CopyOwn
import Derived.Laws.BitsLemmas
namespace Go.Proofs.YtkahkkcbigifiaaDoor
open Go.RowKit
set_option linter.unusedVariables false
variable {P : Program} {ops : Array Oper} {rest : List Oper} {dst : Option Tmp} {ty : TypeId} {pos : String} {after : Array Edge} {a : Act} {w : World} {Q : Exit → Act → World → Prop} {x y : Operand} {t ty' : TypeId} {cs : Array Value} {b : Nat}

theorem i64_in (z : Int) (h0 : -9223372036854775808 ≤ z) (h1 : z ≤ 9223372036854775807) : IntKind.i64.wrap z = z := by
  rw [IntKind.wrap_i64]; omega
/-- All that lay stays, but block b. -/
structure Only (b : Nat) (w W : World) : Prop where
  size : W.heap.size = w.heap.size
  row : ∀ g, g ≠ b → W.heap[g]? = w.heap[g]?
  bel : ∀ B w0, B ≤ b → Below B w0 w → Below B w0 W

theorem below_dn {B : Nat} {a w : World} (h : Below B a w) (n : Nat) : Below B a (w.drewN n) := h.trans ⟨rfl, rfl, rfl, Nat.le_refl _, fun _ _ => rfl⟩
theorem RowAt.only {w W : World} {b g : Nat} {cs : Array Value} {t : TypeId} (h : RowAt w g cs t) (ho : Only b w W) (hn : g ≠ b) : RowAt W g cs t := (ho.row g hn).trans h

theorem below_setCells {B g : Nat} {w0 : World} (hg : B ≤ g) : ∀ (vs : List Value) (o : Nat) (w : World), Below B w0 w → Below B w0 (w.setCells g o vs)
  | [], _, _, h => h
  | v :: r, o, w, h => below_setCells hg r (o + 1) _ (h.setCell hg _)
theorem far_setCells {g b : Nat} (hg : g ≠ b) : ∀ (vs : List Value) (o : Nat) (w : World), (w.setCells b o vs).heap[g]? = w.heap[g]?
  | [], _, _ => rfl
  | v :: r, o, w => (far_setCells hg r (o + 1) _).trans (Below.heap_setCell _ _ _ _ hg)
theorem size_setCells {b : Nat} : ∀ (vs : List Value) (o : Nat) (w : World), (w.setCells b o vs).heap.size = w.heap.size
  | [], _, _ => rfl
  | v :: r, o, w => (size_setCells r (o + 1) _).trans (by simp)
theorem only_setCells (b o : Nat) (vs : List Value) (w : World) : Only b w (w.setCells b o vs) :=
  ⟨size_setCells vs o w, fun g hg => far_setCells hg vs o w, fun B w0 hB h => below_setCells hB vs o w h⟩
theorem only_setRow (b : Nat) (cs : Array Value) (w : World) : Only b w (w.setRow b cs) :=
  ⟨by simp, fun g hg => setRow_other w b g cs hg, fun B w0 hB h => below_setRow h hB cs⟩
theorem only_setCell (b j : Nat) (v : Value) (w : World) : Only b w (w.setCell ⟨b, j, none⟩ v) := only_setCells b j [v] w

/-- Cells written one behind the other. -/
def putAll (cs : Array Value) : Nat → List Value → Array Value
  | _, [] => cs
  | o, v :: r => putAll (cs.setIfInBounds o v) (o + 1) r
theorem RowAt.puts : ∀ (vs : List Value) {w : World} {b : Nat} {cs : Array Value} {t : TypeId} (o : Nat), RowAt w b cs t → RowAt (w.setCells b o vs) b (putAll cs o vs) t
  | [], _, _, _, _, _, h => h
  | v :: r, _, _, _, _, o, h => RowAt.puts r (o + 1) (h.put o v)
theorem RowAt.thereAt {w : World} {b : Nat} {cs : Array Value} {t : TypeId} (hr : RowAt w b cs t) (o n : Nat) (h : o + n ≤ cs.size) : w.there b o n := fun j hj =>
  ⟨by rw [hr.cell, Array.getElem?_eq_getElem (show o + j < cs.size from by omega)]; rfl, hr.thaw _⟩

/-- A new variable of noughts. -/
theorem op_alloc (N : Nat) (hN : w.heap.size = N) (cs : Array Value) (hz : ∀ w, (zeroValue t).run P w = .ok (.agg cs) w)
    (k : ∀ W, RowAt W N cs t → Below N w W → Hid (W.heap.size = N + 1) → wpList P ops Q rest (a.put dst (.pointer (some ⟨N, 0, none⟩))) W) :
    wpList P ops Q (⟨dst, .alloc t, ty, pos, after, none⟩ :: rest) a w := by
  subst hN
  refine wpList_plain rfl fun K hK => ?_
  have hrun : (execOp a.eval ⟨dst, .alloc t, ty, pos, after, none⟩).run P w = .ok (.value (.pointer (some ⟨w.heap.size, 0, none⟩))) (w.alloc (.cells cs t)) := by
    unfold execOp
    simp only [Instr.alloc, Sem.run_bind, hz, Result.andThen_ok, newVar, newRow, run_newObj_alloc, Sem.run_pure]
    rfl
  unfold Oper.wp
  rw [hrun, Oper.upon_value]
  exact hK _ _ (k _ (RowAt.new w _ cs t rfl) (below_one w _) (hide (by simp)))
/-- A whole struct out of its block. -/
theorem op_load (b : Nat) (hx : a.eval x = .pointer (some ⟨b, 0, none⟩)) (cs : Array Value) (t' : TypeId) (hr : RowAt w b cs t') (d : TypeDesc) (hu : P.underlying t = some d) (hd : d.isRow = true) (hi : (P.info? t).map (·.size) = some cs.size)
    (k : wpList P ops Q rest (a.put dst (.agg cs)) w) : wpList P ops Q (⟨dst, .load t x, ty, pos, after, none⟩ :: rest) a w :=
  wpList_load_row rfl t x rfl b hx t' cs (0, 0) d hr hu (by cases d <;> first | rfl | cases hd) hi k
/-- A struct out of the middle of a block. -/
theorem op_load_mid (b o : Nat) (hx : a.eval x = .pointer (some ⟨b, o, none⟩)) (cs vs : Array Value) (t' : TypeId) (hr : RowAt w b cs t') (hv : (cs.extract o (o + vs.size)).toList = vs.toList) (d : TypeDesc) (hu : P.underlying t = some d) (hd : d.isRow = true) (hi : (P.info? t).map (·.size) = some vs.size)
    (k : wpList P ops Q rest (a.put dst (.agg vs)) w) : wpList P ops Q (⟨dst, .load t x, ty, pos, after, none⟩ :: rest) a w := by
  have hq := World.rangeAt_of_block hr o vs.size
  rw [hv] at hq
  exact wpList_load_mid rfl t x rfl b o hx vs.toList d hq hu hd (by simpa using hi) k
/-- A whole struct into its block. -/
theorem op_store (b : Nat) (hx : a.eval x = .pointer (some ⟨b, 0, none⟩)) (cs : Array Value) (hy : a.eval y = .agg cs) (old : Array Value) (t' : TypeId) (hr : RowAt w b old t') (hi : (P.info? t).map (·.size) = some cs.size) (hs : old.size = cs.size) (h1 : cs.all (·.oneCell') = true)
    (k : ∀ W, RowAt W b cs t' → Only b w W → wpList P ops Q rest (a.put dst undef) W) : wpList P ops Q (⟨dst, .store t x y, ty, pos, after, none⟩ :: rest) a w :=
  wpList_store_row rfl t x y rfl b cs hx hy t' old hr hi hs h1 (k _ (setRow_heap w b old cs t' (0, 0) hr) (only_setRow b cs w))
/-- A struct into the middle of a block. -/
theorem op_store_mid (b o : Nat) (hx : a.eval x = .pointer (some ⟨b, o, none⟩)) (vs : Array Value) (hy : a.eval y = .agg vs) (old cs : Array Value) (t' : TypeId) (hr : RowAt w b old t') (hi : (P.info? t).map (·.size) = some vs.size) (hs : o + vs.size ≤ old.size) (h1 : vs.all (·.oneCell') = true) (hp : putAll old o vs.toList = cs)
    (k : ∀ W, RowAt W b cs t' → Only b w W → wpList P ops Q rest (a.put dst undef) W) : wpList P ops Q (⟨dst, .store t x y, ty, pos, after, none⟩ :: rest) a w := by
  subst hp
  exact wpList_store_mid rfl t x y rfl b o vs hx hy (hr.thereAt o _ hs) hi h1 (k _ (RowAt.puts vs.toList o hr) (only_setCells b o vs.toList w))
/-- One cell into a block. -/
theorem op_store_cell (b j : Nat) (hx : a.eval x = .pointer (some ⟨b, j, none⟩)) (v : Value) (hy : a.eval y = v) (old cs : Array Value) (t' : TypeId) (hr : RowAt w b old t') (hi : (P.info? t).map (·.size) = some 1) (hs : j < old.size) (h1 : v.oneCell' = true) (hp : old.setIfInBounds j v = cs)
    (k : ∀ W, RowAt W b cs t' → Only b w W → wpList P ops Q rest (a.put dst undef) W) : wpList P ops Q (⟨dst, .store t x y, ty, pos, after, none⟩ :: rest) a w := by
  subst hp
  have hth := hr.thereAt j 1 (by omega)
  have := run_storeCells_cells (P := P) b j [v] 0 w (fun i hi => by simpa using (hth i (by simpa using hi)).1) (fun i hi => by simpa using (hth i (by simpa using hi)).2) (fun u hu => by simp at hu; subst hu; exact h1)
  have hc : v.cells = #[v] := by cases v <;> first | rfl | cases h1
  have hrun : (storeVar t ⟨b, j, none⟩ v).run P w = .ok () (w.setCells b j [v]) := by
    cases hq : P.info? t with
    | none => simp [hq] at hi
    | some i =>
      have hs : i.size = 1 := by simp [hq] at hi; omega
      simp only [Nat.add_zero] at this
      simp [storeVar, sizeOf, typeInfo, hq, hc, hs, this]
  refine wpList_plain rfl fun K hK => ?_
  unfold Oper.wp execOp
  simp only [hx, hy, Instr.storeAt, Instr.sureAddr, Sem.run_bind, Sem.run_pure, Result.andThen_ok, hrun]
  exact hK _ _ (k _ (hr.put j v) (only_setCells b j [v] w))
/-- One cell out of a block. -/
theorem op_load_cell (b j : Nat) (hx : a.eval x = .pointer (some ⟨b, j, none⟩)) (cs : Array Value) (v : Value) (t' : TypeId) (hr : RowAt w b cs t') (hv : cs[j]? = some v) (d : TypeDesc) (hu : P.underlying t = some d) (hd : d.isRow = false)
    (k : wpList P ops Q rest (a.put dst v) w) : wpList P ops Q (⟨dst, .load t x, ty, pos, after, none⟩ :: rest) a w := by
  have hcell : w.cell? ⟨b, j, none⟩ = some v := (hr.cell j).trans hv
  have hrun : (loadVar t ⟨b, j, none⟩).run P w = .ok v w := by
    have hagg : (isAgg t).run P w = .ok false w := by
      unfold isAgg
      rw [Sem.run_bind, run_underlying hu w]
      cases d <;> simp_all
    simp [loadVar, Sem.run_bind, hagg, hcell]
  refine wpList_plain rfl fun K hK => ?_
  unfold Oper.wp execOp
  simp only [hx, Instr.loadAt, Instr.sureAddr, Sem.run_bind, Sem.run_pure, Result.andThen_ok, hrun]
  exact hK _ _ k

/-- In a region that draws its order: a whole struct is read, wherever the read comes up. -/
theorem y_load {S : World → Prop} (b : Nat) (cs : Array Value) (t' : TypeId) (hS : ∀ V, S V → RowAt V b cs t') (d : TypeDesc) (hu : P.underlying t = some d) (hd : d.isRow = true) (hi : (P.info? t).map (·.size) = some cs.size) (hx : a.eval x = .pointer (some ⟨b, 0, none⟩)) :
    YieldsIf P ops S ⟨dst, .load t x, ty, pos, after, none⟩ (.agg cs) a :=
  .inl ⟨by simp [Region.wanted], fun V hV => by
    have h := run_loadVar_row V b t' t cs (0, 0) d (hS V hV) hu (by cases d <;> first | rfl | cases hd) hi
    unfold execOp
    simp only [hx, Instr.loadAt, Instr.sureAddr, Sem.run_bind, Sem.run_pure, Result.andThen_ok, h]⟩
/-- .. and one cell. -/
theorem y_cell {S : World → Prop} (b j : Nat) (v : Value) (hS : ∀ V, S V → V.cell? ⟨b, j, none⟩ = some v) (d : TypeDesc) (hu : P.underlying t = some d) (hd : d.isRow = false) (hx : a.eval x = .pointer (some ⟨b, j, none⟩)) :
    YieldsIf P ops S ⟨dst, .load t x, ty, pos, after, none⟩ v a :=
  .inl ⟨by simp [Region.wanted], fun V hV => by
    have hcell := hS V hV
    have hrun : (loadVar t ⟨b, j, none⟩).run P V = .ok v V := by
      have hagg : (isAgg t).run P V = .ok false V := by
        unfold isAgg
        rw [Sem.run_bind, run_underlying hu V]
        cases d <;> simp_all
      simp [loadVar, Sem.run_bind, hagg, hcell]
    unfold execOp
    simp only [hx, Instr.loadAt, Instr.sureAddr, Sem.run_bind, Sem.run_pure, Result.andThen_ok, hrun]⟩
/-- A whole struct is stored there. -/
theorem s_store {K : Act → World → Prop} (b : Nat) (hx : a.eval x = .pointer (some ⟨b, 0, none⟩)) (cs : Array Value) (hy : a.eval y = .agg cs) (old : Array Value) (t' : TypeId) (hr : RowAt w b old t') (hi : (P.info? t).map (·.size) = some cs.size) (hs : old.size = cs.size) (h1 : cs.all (·.oneCell') = true)
    (k : ∀ W, RowAt W b cs t' → Only b w W → K (a.put dst undef) W) :
    Oper.wp P ⟨dst, .store t x y, ty, pos, after, none⟩ a w K Q :=
  wp_store_row t x y rfl b cs hx hy t' old hr hi hs h1 (k _ (setRow_heap w b old cs t' (0, 0) hr) (only_setRow b cs w))

/-- Results: two structs in blocks of their own. -/
theorem results_two_rows {fn : Func} {p u : Tmp} {ty tu : TypeId} (h : fn.results = #[.cell p ty, .cell u tu]) (tmps : Array Value) (w : World) (g g' : Nat) (t t' : TypeId) (cs ds : Array Value) (d d' : TypeDesc)
    (hp : tmps.getD p undef = .pointer (some ⟨g, 0, none⟩)) (hg : RowAt w g cs t) (hu : P.underlying ty = some d) (hd : d.isRow = true) (hi : (P.info? ty).map (·.size) = some cs.size)
    (hp' : tmps.getD u undef = .pointer (some ⟨g', 0, none⟩)) (hg' : RowAt w g' ds t') (hu' : P.underlying tu = some d') (hd' : d'.isRow = true) (hi' : (P.info? tu).map (·.size) = some ds.size) :
    (results fn tmps).run P w = .ok (.tuple #[.agg cs, .agg ds]) w := by
  have e : tmps[p]?.getD undef = .pointer (some ⟨g, 0, none⟩) := by simpa using hp
  have e' : tmps[u]?.getD undef = .pointer (some ⟨g', 0, none⟩) := by simpa using hp'
  have l := run_loadVar_row w g t ty cs (0, 0) d hg hu (by cases d <;> first | rfl | cases hd) hi
  have l' := run_loadVar_row w g' t' tu ds (0, 0) d' hg' hu' (by cases d' <;> first | rfl | cases hd') hi'
  simp [results, h, e, e', asAddr, l, l']
end Go.Proofs.YtkahkkcbigifiaaDoor
