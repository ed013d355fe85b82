/-
  Acts that came in; a byte appended, as one operation.
-/
import Derived.Test.YthopfecjnbfnmaaUaQ
import Derived.Deep.RegionHeld3
import Derived.Great.Walk
namespace Go.Proofs.Ythopfecjnbfnmaa
open Go.RowKit
set_option linter.unusedVariables false

/-- An act: its kind, and its byte. -/
structure A2 where
  kd : Int
  c : Nat
/-- Acts that came in. -/
def ActsAt (p : Option Addr) (n : Nat) (f : Nat → A2) (w : World) : Prop := ∀ j, j < n → (f j).c < 256 ∧ ∃ b o, p = some ⟨b, o, none⟩ ∧ w.cell? ⟨b, o + j * 2, none⟩ = some (.int .i64 (f j).kd) ∧ w.cell? ⟨b, o + j * 2 + 1, none⟩ = some (.int .u8 ((f j).c : Nat))
theorem eight_nat (z : Int) : ∃ m : Nat, (IntKind.u64.wrap z).tmod 8 = (m : Int) ∧ m < 8 := by
  have h1 : IntKind.u64.wrap z = z % 18446744073709551616 := by simp [IntKind.wrap, IntKind.bits, IntKind.signed]
  rw [h1, Int.tmod_eq_emod_of_nonneg (by omega)]
  exact ⟨(z % 18446744073709551616 % 8).toNat, by omega, by omega⟩
/-- What holds between two acts. -/
def OrdRel (w : World) (n : Nat) (v4 v5 v6 v7 : Value) (wr : World) : Prop :=
  ∃ (k : Nat) (s : U) (li lo : List Nat) (ov : Bool), k ≤ n ∧ k ≤ 200 ∧ v7 = .int .i64 (k : Nat) ∧ v6 = .bool ov ∧ Ord s li lo ov ∧ RowAt wr w.heap.size s.cells 29 ∧ Qat wr (w.heap.size + 1) v4 li ∧ Qat wr (w.heap.size + 1) v5 lo ∧ QFar v4 v5 ∧ Below w.heap.size w wr
variable {ops : Array Oper} {rest : List Oper} {dst : Option Tmp} {ty : TypeId} {pos : String} {after : Array Edge} {a : Act} {X w : World} {Q : Exit → Act → World → Prop} {x y : Operand} {K : Act → World → Prop}
theorem bs_1 (N c : Nat) (hN : w.heap.size = N) (hx : a.eval x = .int .u8 (c : Nat))
    (k : ∀ W, RowAt W N #[.int .u8 (c : Nat)] 5 → Below N w W → Hid (W.heap.size = N + 1) → wpList Try.prog ops Q rest (a.put dst (.slice (some ⟨N, 0, none⟩) 1 1)) W) :
    wpList Try.prog ops Q (⟨dst, .buildSlice 40 1 #[(0, x)], ty, pos, after, none⟩ :: rest) a w := by
  subst hN
  have hp : Try.prog.builtSlice 5 1 [(0, .int .u8 (c : Nat))] = some #[.int .u8 (c : Nat)] := by kernel_rfl
  refine Great.wpList_buildSliceTo rfl _ 5 1 _ rfl _ rfl dst rfl Try.underlying40 #[.int .u8 (c : Nat)] ?_ (k _ (RowAt.new w _ _ 5 rfl) (below_one w _) (hide (by simp)))
  simp [hx]; exact hp
theorem op_appx {v : Value} {l : List Nat} (B N c : Nat) (hq : Qat X B v l) (hB : B ≤ X.heap.size) (hl : l.length < 16) (hs : X.cell? ⟨N, 0, none⟩ = some (.int .u8 (c : Nat))) (hx : a.eval x = v) (hy : a.eval y = .slice (some ⟨N, 0, none⟩) 1 1)
    (k : ∀ W v', Qat W B v' (l ++ [c]) → (∀ g, g < X.heap.size → v.ownBlock ≠ some g → W.heap[g]? = X.heap[g]?) → X.heap.size ≤ W.heap.size → (∀ B' w0, B' ≤ B → Below B' w0 X → Below B' w0 W) → (v'.ownBlock = v.ownBlock ∨ v'.ownBlock = some X.heap.size) → wpList Try.prog ops Q rest (a.put dst v') W) :
    wpList Try.prog ops Q (⟨dst, .call { callee := .builtin .append, args := #[x, y], argTypes := #[40, 40] }, 40, pos, after, none⟩ :: rest) a X := by
  obtain ⟨W, v', h1, h2, h3, h4, h5, h6⟩ := app_q hq hB hl N 1 c hs
  refine wpList_plain rfl fun K hK => ?_
  have hr := h1.eq
  unfold Oper.wp execOp
  simp only [resolve, invoke, builtin, Sem.run_bind, Sem.run_pure, Result.andThen_ok, List.map_toArray, List.map_cons, List.map_nil, hx, hy, hr]
  exact hK _ _ (k W v' h2 h3 h4 h5 h6)
theorem s_ldu (b : Nat) (h : U) (hr : RowAt w b h.cells 29) (hx : a.eval x = .pointer (some ⟨b, 0, none⟩)) (k : K (a.put dst (.agg h.cells)) w) :
    Oper.wp Try.prog ⟨dst, .load 29 x, ty, pos, after, none⟩ a w K Q := wp_load_row 29 x rfl b hx _ h.cells (0, 0) _ hr Try.underlying29 rfl size_up k
/-- The other queue, and what else there is, behind an append. -/
theorem far_after {W : World} {B : Nat} {v v' u : Value} {l m : List Nat} (hv : Qat X B v l) (hu : Qat X B u m) (hf : QFar v u) (hk : ∀ g, g < X.heap.size → v.ownBlock ≠ some g → W.heap[g]? = X.heap[g]?) (ho : v'.ownBlock = v.ownBlock ∨ v'.ownBlock = some X.heap.size) :
    Qat W B u m ∧ QFar v' u := by
  refine ⟨hu.keep fun g hg => hk g (hu.lt hg).2 (hf.symm g hg), fun g h1 h2 => ?_⟩
  rcases ho with e | e
  · rw [e] at h1; exact hf g h1 h2
  · rw [e] at h1
    obtain rfl := Option.some.inj h1
    exact Nat.lt_irrefl _ (hu.lt h2).2
theorem row_after {W : World} {B b : Nat} {v : Value} {l : List Nat} {cs : Array Value} {t : TypeId} (hv : Qat X B v l) (hr : RowAt X b cs t) (hb : b < B) (hk : ∀ g, g < X.heap.size → v.ownBlock ≠ some g → W.heap[g]? = X.heap[g]?) : RowAt W b cs t :=
  (hk b hr.lt (fun e => by have := (hv.lt e).1; omega)).trans hr
theorem Qat.cell0 {B g o n cap y : Nat} {l : List Nat} (h : Qat w B (.slice (some ⟨g, o, none⟩) n cap) (y :: l)) : w.cell? ⟨g, o, none⟩ = some (.int .u8 (y : Nat)) := by
  obtain ⟨g', o', cap', e, _, _, h1, _⟩ := h.first
  cases e
  exact h1
theorem Qat.cut {B g o n cap y : Nat} {l : List Nat} (h : Qat w B (.slice (some ⟨g, o, none⟩) n cap) (y :: l)) (hc : 1 < cap) : Qat w B (.slice (some ⟨g, o + 1, none⟩) l.length (cap - 1)) l := by
  obtain ⟨g', o', cap', e, _, _, _, h1, _⟩ := h.first
  cases e
  exact h1 hc
theorem Qat.cut0 {B g o n cap y : Nat} {l : List Nat} (h : Qat w B (.slice (some ⟨g, o, none⟩) n cap) (y :: l)) (hc : ¬ 1 < cap) : Qat w B (.slice (some ⟨g, o, none⟩) 0 0) [] := by
  obtain ⟨g', o', cap', e, _, _, _, _, h1⟩ := h.first
  cases e
  exact (h1 hc).2.2
theorem s_alloc {P : Program} {t : TypeId} (N : Nat) (hN : w.heap.size = N) (cs : Array Value) (hz : ∀ w, (zeroValue t).run P w = .ok (.agg cs) w)
    (k : ∀ W, RowAt W N cs t → Below N w W → Hid (W.heap.size = N + 1) → K (a.put dst (.pointer (some ⟨N, 0, none⟩))) W) :
    Oper.wp P ⟨dst, .alloc t, ty, pos, after, none⟩ a w K Q := by
  subst hN
  have hrun : (execOp a.eval ⟨dst, .alloc t, ty, pos, after, none⟩).run P w = .ok (.value (.pointer (some ⟨w.heap.size, 0, none⟩))) (w.alloc (.cells cs t)) := by
    unfold execOp
    simp only [Instr.alloc, Sem.run_bind, hz, Result.andThen_ok, newVar, newRow, run_newObj_alloc, Sem.run_pure]
    rfl
  unfold Oper.wp
  rw [hrun, Oper.upon_value]
  exact k _ (RowAt.new w _ cs t rfl) (below_one w _) (hide (by simp))
end Go.Proofs.Ythopfecjnbfnmaa
