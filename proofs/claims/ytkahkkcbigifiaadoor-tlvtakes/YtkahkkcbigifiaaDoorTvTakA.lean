/-
  TlvTakes: what its walk needs.
-/
import Derived.Test.YtkahkkcbigifiaaDoorTvOutP
import Derived.Test.YtkahkkcbigifiaaDoorTvConP
import Derived.Test.YtkahkkcbigifiaaDoorTvRef3
namespace Go.Proofs.YtkahkkcbigifiaaDoor
open Go.RowKit
set_option linter.unusedVariables false
set_option linter.unusedSimpArgs false

variable {P : Program} {ops : Array Oper} {rest : List Oper} {dst : Option Tmp} {ty t t2 : TypeId} {pos : String} {after : Array Edge} {a : Act} {w : World} {Q : Exit → Act → World → Prop} {K : Act → World → Prop} {x y z : Operand} {gd : Option (Nat × Bool)}
theorem und_ta : Tryd.prog.underlying 45 = some (.slice 51) := Tryd.underlying45
theorem siz_ta : ∀ w : World, (sizeOf 51).run Tryd.prog w = .ok 3 w := fun w => by kernel_rfl
theorem ex_idxA (b off len cap k : Nat) (hk : k < len) (hx : a.eval x = .slice (some ⟨b, off, none⟩) len cap) (hy : a.eval y = .int .i64 (k : Nat)) (w : World) :
    (execOp a.eval ⟨dst, .indexAddr 45 x y, ty, pos, after, gd⟩).run Tryd.prog w = .ok (.value (.pointer (some ⟨b, off + k * 3, none⟩))) w := by
  have hk1 : (0 : Int) ≤ (k : Int) ∧ (k : Int) < (len : Int) := by omega
  have hk2 : ¬ len ≤ k := by omega
  unfold execOp
  simp [hx, hy, Instr.indexAt, asIntOf, run_underlying und_ta, hk1, hk2, siz_ta, Addr.add_lit]
theorem Rd.back {B : Nat} {w W : World} {v : Value} {l : List Nat} (h : Rd B W v l) (hb : Below B w W) : Rd B w v l := by
  obtain ⟨h1, a, cap, h2, h3, h4, h5⟩ := h
  refine ⟨h1, a, cap, h2, h3, h4, fun h0 => ?_⟩
  obtain ⟨b, off, e1, e2, e3⟩ := h5 h0
  exact ⟨b, off, e1, e2, fun j hj => (hb.cell (p := ⟨b, off + j, Option.none⟩) e2).symm.trans (e3 j hj)⟩
theorem y_rowY {S : World → Prop} {vb : Value} {er : Nat} (N : Nat) (hS : ∀ U, S U → RowAt U N (inC vb er) 49) (hx : a.eval x = .pointer (some ⟨N, 0, none⟩)) (hw : Region.wanted ⟨dst, .load 49 x, ty, pos, after, gd⟩ (yielded ops a.tmps) = true) :
    YieldsIf Tryd.prog ops S ⟨dst, .load 49 x, ty, pos, after, gd⟩ (.agg (inC vb er)) a :=
  yieldsIf_load_mid hw 49 x rfl N 0 hx [vb, .int .i64 (er : Nat)] _ (fun U hU j u hj => by
    rw [Nat.zero_add]
    exact ((hS U hU).cell j).trans (by rw [← hj]; simp [inC])) Tryd.underlying49 rfl (size_in vb er)
theorem s_allocT (cs : Array Value) (hz : ∀ w, (zeroValue t).run P w = .ok (.agg cs) w)
    (k : ∀ W N, w.heap.size ≤ N → RowAt W N cs t → Below w.heap.size w W → K (a.put dst (.pointer (some ⟨N, 0, none⟩))) W) :
    Oper.wp P ⟨dst, .alloc t, ty, pos, after, none⟩ a w K Q := by
  have hrun : (execOp a.eval ⟨dst, .alloc t, ty, pos, after, none⟩).run P w = .ok (.value (.pointer (some ⟨w.heap.size, 0, none⟩))) (w.alloc (.cells cs t)) := by
    unfold execOp
    simp only [Instr.alloc, Sem.run_bind, hz, Result.andThen_ok, newVar, newRow, run_newObj_alloc, Sem.run_pure]
    rfl
  unfold Oper.wp
  rw [hrun, Oper.upon_value]
  exact k _ _ (Nat.le_refl _) (RowAt.new w _ cs t rfl) (below_one w _)
theorem takeN_len (i : InS) (n : Int) (most : Nat) : (takeN i n most).1.b.length ≤ i.b.length := by
  unfold takeN
  split
  · exact Nat.le_refl _
  split
  · exact Nat.le_refl _
  split
  · exact Nat.le_refl _
  split
  · exact Nat.le_refl _
  · simp only [List.length_drop]; omega
theorem takeR_len (i : InS) (most : Int) : (takeR i most).1.b.length ≤ i.b.length := by
  unfold takeR
  split
  · exact Nat.le_refl _
  split
  · exact Nat.le_refl _
  split
  · exact Nat.le_refl _
  split
  · exact Nat.le_refl _
  split
  · exact Nat.le_refl _
  · simp only [List.length_drop]; omega
theorem u64_of (z : Int) : ∃ m : Nat, IntKind.u64.wrap z = (m : Nat) ∧ m < 18446744073709551616 := by
  refine ⟨(IntKind.u64.wrap z).toNat, ?_, ?_⟩
  · rw [IntKind.wrap_u64]; omega
  · rw [IntKind.wrap_u64]; omega
/-- What a round begins with. -/
def TkRel (p py N n : Nat) (w0 : World) (l : List Nat) (iv : Value) (wr : World) : Prop := ∃ (k : Nat) (i : InS) (vy : Value), k ≤ n ∧ iv = .int .i64 (k : Nat) ∧ InP p wr i ∧ i.b.length ≤ l.length ∧ RowAt wr py (inC vy i.err) 49 ∧ Rd N w0 vy i.b ∧ Below N w0 wr
theorem below_bl' {w U W : World} (h : Below w.heap.size w U) (hb : Below U.heap.size U W) : Below w.heap.size w W := below_bl rfl h hb
theorem op_allocT (cs : Array Value) (hz : ∀ w, (zeroValue t).run P w = .ok (.agg cs) w)
    (k : ∀ W N, w.heap.size ≤ N → RowAt W N cs t → Below w.heap.size w W → wpList P ops Q rest (a.put dst (.pointer (some ⟨N, 0, none⟩))) W) :
    wpList P ops Q (⟨dst, .alloc t, ty, pos, after, none⟩ :: rest) a w :=
  op_alloc w.heap.size rfl cs hz fun W h1 h2 _ => k W _ (Nat.le_refl _) h1 h2
theorem inP_only {p py : Nat} {W : World} {i : InS} (h : InP p w i) (ho : Only py w W) (hp : p < py) : InP p W i := by
  obtain ⟨u, hr, hd⟩ := h
  exact ⟨u, hr.only ho (by omega), hd.only ho (by omega)⟩
end Go.Proofs.YtkahkkcbigifiaaDoor
