/-
  What Clone of mem calls: bytes.Clone, slices.Clone, atomic.Int64's Load and Store.
-/
import Derived.Test.YtalcgipcephnnaaDoorJMeErr
import Derived.Deep.AppendSrc
import Derived.Lib.SliceRun
namespace Go.Proofs.YtalcgipcephnnaaDoor
open Go.RowKit
set_option linter.unusedVariables false
attribute [local go_sem ↓] Go.wp_at_zero Go.wp_at_succ

set_option maxRecDepth 100000 in
theorem load64 (a : Addr) (x : Int) (w : World) (hc : w.cell? a = some (.int .i64 x)) :
    Calls Tryd.prog 47 #[.pointer (some a)] w fun e w' => e = .returned (.int .i64 x) ∧ w' = w := by
  have hl := run_call_load (P := Tryd.prog) Tryd.func68 (by kernel_rfl) (by kernel_rfl) (by kernel_rfl) .i64 (by kernel_rfl) (w := w) (a := a) (x := x) hc
  go_enter Tryd.func47, Tryd.ntmps47
  go_wp2
  go_ret
  exact ⟨rfl, rfl⟩
set_option maxRecDepth 100000 in
theorem store64 (a : Addr) (x : Value) (y : Int) (w : World) (hc : w.cell? a = some x) (hz : w.frozen? a = false) :
    Calls Tryd.prog 46 #[.pointer (some a), .int .i64 y] w fun e w' => e = .returned (.tuple #[]) ∧ w' = w.setCell a (.int .i64 y) := by
  have hst := run_call_store (P := Tryd.prog) Tryd.func67 (by kernel_rfl) (by kernel_rfl) (by kernel_rfl) (by kernel_rfl) (k := .i64) (y := y) hc hz
  go_enter Tryd.func46, Tryd.ntmps46
  go_wp2
  go_end0
  exact ⟨rfl, rfl⟩
set_option maxRecDepth 100000 in
theorem clone_nil (w : World) :
    Calls Tryd.prog 45 #[.slice none 0 0] w fun e w' => e = .returned (.slice none 0 0) ∧ w' = w := by
  have hq := fun w => Lib.run_eql_slice_nil (P := Tryd.prog) w 43 5 none 0 0 0 0 Tryd.underlying43
  go_enter Tryd.func45, Tryd.ntmps45
  go_wp2
  go_ret
  exact ⟨rfl, rfl⟩
/-- The values of a row. -/
def rowL (f : Nat → Value) (n : Nat) : List Value := (List.range n).map f
theorem rowL_len (f : Nat → Value) (n : Nat) : (rowL f n).length = n := by simp [rowL]
theorem rowL_at {f : Nat → Value} {n j : Nat} (h : j < n) : (rowL f n)[j]? = some (f j) := by
  unfold rowL; rw [List.getElem?_map, List.getElem?_range h]; rfl
/-- What append of a row to none makes. -/
def TakenOk (w : World) (t e b g n c C : Nat) (O : Obj) : Prop :=
    (Builtin.append_ #[t, t] t #[.slice (some ⟨b, 0, none⟩) 0 0, .slice (some ⟨g, 0, none⟩) n c]).run Tryd.prog w = .ok (.slice (some ⟨w.heap.size, 0, none⟩) n C) (w.drew.alloc O)
theorem TakenOk.eq {w : World} {t e b g n c C : Nat} {O : Obj} (h : TakenOk w t e b g n c C O) :
    (Builtin.append_ #[t, t] t #[.slice (some ⟨b, 0, none⟩) 0 0, .slice (some ⟨g, 0, none⟩) n c]).run Tryd.prog w = .ok (.slice (some ⟨w.heap.size, 0, none⟩) n C) (w.drew.alloc O) := h
theorem taken_ok {w : World} (t e b g n c : Nat) {f : Nat → Value} (i : TypeInfo) (z : Value) (ht : Tryd.prog.underlying t = some (.slice e)) (hi : Tryd.prog.info? e = some i) (hz : i.zero = some z) (h1 : i.size = 1) (hb : i.bytes ≤ 8)
    (h0 : 0 < n) (hn : n ≤ 16384) (h : HoldsAt w g n e f) :
    ∃ C O, n ≤ C ∧ C ≤ maxLen ∧ TakenOk w t e b g n c C O ∧ HoldsAt (w.drew.alloc O) w.heap.size n e f := by
  have hr := run_append_grow (P := Tryd.prog) (w := w) t t e i z ht hi hz ⟨b, 0, none⟩ 0 0 [] (by simp) (by simp) ⟨g, 0, none⟩ n c (rowL f n) (by rw [rowL_len, h1, Nat.mul_one]) (fun j v hj => by
      have hj4 : j < n := by have := (List.getElem?_eq_some_iff.1 hj).1; rwa [rowL_len] at this
      rw [Addr.add_lit, Nat.zero_add, h.cell hj4, ← hj, rowL_at hj4]) (by omega) (by omega) (by
      rw [Nat.zero_add, nextslicecap_zero h0]
      exact Nat.le_trans (Nat.mul_le_mul hn hb) (by omega))
  rw [Nat.zero_add] at hr
  refine ⟨_, _, grownCap_ge w n 0 e, grownCap_le_maxLen w n 0 e (by unfold maxLen; omega), hr, ⟨_, RowAt.new w.drew _ _ _ rfl, ?_, fun j hj => ?_⟩⟩
  · simp [rowL_len]
  · simp [Array.getElem?_append, rowL_len, hj]
    have := rowL_at (f := f) hj
    rw [List.getElem?_eq_getElem (by rw [rowL_len]; exact hj)] at this
    exact Option.some.inj this
theorem wpList_taken {ops : Array Oper} {rest : List Oper} {o : Oper} {a : Act} {w : World} {Q : Exit → Act → World → Prop} (t e b g n c C : Nat) {O : Obj}
    (hgd : o.guard = none) (s x : Operand) (ho : o.op = Op.call { callee := Callee.builtin Builtin.append, args := #[s, x], argTypes := #[t, t] }) (hty : o.type = t)
    (hs : a.eval s = .slice (some ⟨b, 0, none⟩) 0 0) (hx : a.eval x = .slice (some ⟨g, 0, none⟩) n c) (h : TakenOk w t e b g n c C O)
    (hK : wpList Tryd.prog ops Q rest (a.put o.dst (.slice (some ⟨w.heap.size, 0, none⟩) n C)) (w.drew.alloc O)) : wpList Tryd.prog ops Q (o :: rest) a w := by
  refine wpList_plain hgd fun K hK' => ?_
  have hr := h.eq
  unfold Oper.wp execOp
  simp only [ho, hty, resolve, invoke, builtin, Sem.run_bind, Sem.run_pure, Result.andThen_ok, List.map_toArray, List.map_cons, List.map_nil, hs, hx, hr]
  exact hK' _ _ hK
set_option maxRecDepth 100000 in
theorem clone_page (w : World) (g n c : Nat) (h0 : 0 < n) (hn : n ≤ 16384) (f : Nat → Value) (h : HoldsAt w g n 5 f) :
    Calls Tryd.prog 45 #[.slice (some ⟨g, 0, none⟩) n c] w fun e w' => ∃ C x, e = .returned (.slice (some ⟨x, 0, none⟩) n C) ∧ n ≤ C ∧ C ≤ maxLen ∧ HoldsAt w' x n 5 f ∧ w.heap.size ≤ x ∧ Below w.heap.size w w' := by
  have hq := fun w => Lib.run_eql_slice_nil (P := Tryd.prog) w 43 5 (some ⟨g, 0, none⟩) n c 0 0 Tryd.underlying43
  have hm : (Tryd.prog.info? 5).map (fun i => (i.zero, i.size, i.bytes)) = some (some (.int .u8 0), 1, 1) := by kernel_rfl
  obtain ⟨i, hi, hm⟩ := Option.map_eq_some_iff.1 hm
  have hz : i.zero = some (.int .u8 0) := congrArg (·.1) hm
  have h1 : i.size = 1 := congrArg (·.2.1) hm
  have hb : i.bytes = 1 := congrArg (·.2.2) hm
  obtain ⟨C, O, hC, hC2, hT, hO⟩ := taken_ok 43 5 w.heap.size g n c i _ Tryd.underlying43 hi hz h1 (by omega) h0 hn (h.al (.cells #[] 5))
  have HT := hide hT
  have HO := hide hO
  clear hT hO hi hz h1 hb hm
  go_enter Tryd.func45, Tryd.ntmps45
  go_wp2_with (refine wpList_taken 43 5 _ g n c C rfl _ _ rfl rfl rfl rfl HT.out ?_)
  go_ret
  exact ⟨C, _, rfl, hC, hC2, (by simpa [go_sem] using HO.out), Nat.le_succ _, (((Below.refl _ w).alloc (Nat.le_refl _) _).alloc (by simp) _).drew⟩
set_option maxRecDepth 100000 in
theorem clone_bools (w : World) (g n c : Nat) (h0 : 0 < n) (hn : n ≤ 16384) (f : Nat → Value) (h : HoldsAt w g n 4 f) :
    Calls Tryd.prog 44 #[.slice (some ⟨g, 0, none⟩) n c] w fun e w' => ∃ C x, e = .returned (.slice (some ⟨x, 0, none⟩) n C) ∧ n ≤ C ∧ C ≤ maxLen ∧ HoldsAt w' x n 4 f ∧ w.heap.size ≤ x ∧ Below w.heap.size w w' := by
  have hq := fun w => Lib.run_eql_slice_nil (P := Tryd.prog) w 44 4 (some ⟨g, 0, none⟩) n c 0 0 Tryd.underlying44
  have hm : (Tryd.prog.info? 4).map (fun i => (i.zero, i.size, i.bytes)) = some (some (.bool false), 1, 1) := by kernel_rfl
  obtain ⟨i, hi, hm⟩ := Option.map_eq_some_iff.1 hm
  have hz : i.zero = some (.bool false) := congrArg (·.1) hm
  have h1 : i.size = 1 := congrArg (·.2.1) hm
  have hb : i.bytes = 1 := congrArg (·.2.2) hm
  obtain ⟨C, O, hC, hC2, hT, hO⟩ := taken_ok 44 4 w.heap.size g n c i _ Tryd.underlying44 hi hz h1 (by omega) h0 hn (h.al (.cells #[] 4))
  have HT := hide hT
  have HO := hide hO
  clear hT hO hi hz h1 hb hm
  go_enter Tryd.func44, Tryd.ntmps44
  go_wp2_with (refine wpList_taken 44 4 _ g n c C rfl _ _ rfl rfl rfl rfl HT.out ?_)
  go_ret
  exact ⟨C, _, rfl, hC, hC2, (by simpa [go_sem] using HO.out), Nat.le_succ _, (((Below.refl _ w).alloc (Nat.le_refl _) _).alloc (by simp) _).drew⟩
end Go.Proofs.YtalcgipcephnnaaDoor
