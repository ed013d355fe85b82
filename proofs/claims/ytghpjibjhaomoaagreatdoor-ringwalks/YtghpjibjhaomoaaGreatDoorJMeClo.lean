/-
  What Clone of mem calls: bytes.Clone, slices.Clone, atomic.Int64's Load and Store.
-/
import Derived.Test.YtghpjibjhaomoaaGreatDoorJMeErr
import Derived.Deep.AppendSrc
import Derived.Lib.SliceRun
namespace Go.Proofs.YtghpjibjhaomoaaGreatDoor
open Go.RowKit
set_option linter.unusedVariables false
attribute [local go_sem ↓] Go.wp_at_zero Go.wp_at_succ

/-- The values of a row. -/
def rowL (f : Nat → Value) (n : Nat) : List Value := (List.range n).map f
theorem rowL_len (f : Nat → Value) (n : Nat) : (rowL f n).length = n := by simp [rowL]
theorem rowL_at {f : Nat → Value} {n j : Nat} (h : j < n) : (rowL f n)[j]? = some (f j) := by
  unfold rowL; rw [List.getElem?_map, List.getElem?_range h]; rfl
/-- What append of a row to none makes. -/
def TakenOk (w : World) (t e b g n c C : Nat) (O : Obj) : Prop :=
    (Builtin.append_ #[t, t] t #[.slice (some ⟨b, 0, none⟩) 0 0, .slice (some ⟨g, 0, none⟩) n c]).run Tryz.prog w = .ok (.slice (some ⟨w.heap.size, 0, none⟩) n C) (w.drew.alloc O)
theorem TakenOk.eq {w : World} {t e b g n c C : Nat} {O : Obj} (h : TakenOk w t e b g n c C O) :
    (Builtin.append_ #[t, t] t #[.slice (some ⟨b, 0, none⟩) 0 0, .slice (some ⟨g, 0, none⟩) n c]).run Tryz.prog w = .ok (.slice (some ⟨w.heap.size, 0, none⟩) n C) (w.drew.alloc O) := h
theorem taken_ok {w : World} (t e b g n c : Nat) {f : Nat → Value} (i : TypeInfo) (z : Value) (ht : Tryz.prog.underlying t = some (.slice e)) (hi : Tryz.prog.info? e = some i) (hz : i.zero = some z) (h1 : i.size = 1) (hb : i.bytes ≤ 8)
    (h0 : 0 < n) (hn : n ≤ 16384) (h : HoldsAt w g n e f) :
    ∃ C O, n ≤ C ∧ C ≤ maxLen ∧ TakenOk w t e b g n c C O ∧ HoldsAt (w.drew.alloc O) w.heap.size n e f := by
  have hr := run_append_grow (P := Tryz.prog) (w := w) t t e i z ht hi hz ⟨b, 0, none⟩ 0 0 [] (by simp) (by simp) ⟨g, 0, none⟩ n c (rowL f n) (by rw [rowL_len, h1, Nat.mul_one]) (fun j v hj => by
      have hj4 : j < n := by have := (List.getElem?_eq_some_iff.1 hj).1; rwa [rowL_len] at this
      rw [Addr.add_lit, Nat.zero_add, h.cell hj4, ← hj, rowL_at hj4]) (by omega) (by omega) (by
      rw [Nat.zero_add, nextslicecap_zero h0]
      exact Nat.le_trans (Nat.mul_le_mul hn hb) (by omega))
  rw [Nat.zero_add] at hr
  refine ⟨_, _, grownCap_ge w n 0 e, grownCap_le_maxLen w n 0 e (by unfold maxLen; omega), hr, ⟨_, RowAt.new w.drew _ _ _ rfl, ?_, fun j hj => ?_⟩⟩
  · simp [rowL_len]
  · simp [Array.getElem?_append, rowL_len, hj]
    have := rowL_at (f := f) hj
    rw [List.getElem?_eq_getElem (by rw [rowL_len]; exact hj)] at this
    exact Option.some.inj this
theorem wpList_taken {ops : Array Oper} {rest : List Oper} {o : Oper} {a : Act} {w : World} {Q : Exit → Act → World → Prop} (t e b g n c C : Nat) {O : Obj}
    (hgd : o.guard = none) (s x : Operand) (ho : o.op = Op.call { callee := Callee.builtin Builtin.append, args := #[s, x], argTypes := #[t, t] }) (hty : o.type = t)
    (hs : a.eval s = .slice (some ⟨b, 0, none⟩) 0 0) (hx : a.eval x = .slice (some ⟨g, 0, none⟩) n c) (h : TakenOk w t e b g n c C O)
    (hK : wpList Tryz.prog ops Q rest (a.put o.dst (.slice (some ⟨w.heap.size, 0, none⟩) n C)) (w.drew.alloc O)) : wpList Tryz.prog ops Q (o :: rest) a w := by
  refine wpList_plain hgd fun K hK' => ?_
  have hr := h.eq
  unfold Oper.wp execOp
  simp only [ho, hty, resolve, invoke, builtin, Sem.run_bind, Sem.run_pure, Result.andThen_ok, List.map_toArray, List.map_cons, List.map_nil, hs, hx, hr]
  exact hK' _ _ hK
end Go.Proofs.YtghpjibjhaomoaaGreatDoor
