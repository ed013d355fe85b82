/-
  Eight bools in a block; acts that came in.
-/
import Derived.Test.YtadgdgjmadchjaaPlWrite
import Derived.Test.YtadgdgjmadchjaaPlCheck
import Derived.Test.YtadgdgjmadchjaaPlSure
import Derived.Test.YtadgdgjmadchjaaPlOnceM
import Derived.Test.YtadgdgjmadchjaaPlBestW
import Derived.Test.YtadgdgjmadchjaaPlRefL
namespace Go.Proofs.Ytadgdgjmadchjaa
open Go.RowKit
set_option linter.unusedVariables false

def b8 (f : Nat → Bool) : Array Value := #[.bool (f 0), .bool (f 1), .bool (f 2), .bool (f 3), .bool (f 4), .bool (f 5), .bool (f 6), .bool (f 7)]
theorem b8_at (f : Nat → Bool) (r : Nat) (hr : r < 8) : (b8 f)[r]? = some (.bool (f r)) := by
  rcases r with _ | _ | _ | _ | _ | _ | _ | _ | r
  all_goals first | rfl | omega
theorem b8_set (f : Nat → Bool) (r : Nat) (v : Bool) (hr : r < 8) : (b8 f).setIfInBounds r (.bool v) = b8 (setB f r v) := by
  rcases r with _ | _ | _ | _ | _ | _ | _ | _ | r
  all_goals first | rfl | omega
theorem size_b8 : (Try.prog.info? 35).map (·.size) = some 8 := by kernel_rfl
theorem size_bool : (Try.prog.info? 4).map (·.size) = some 1 := by kernel_rfl
theorem zero_b8 (w : World) : (zeroValue 35).run Try.prog w = .ok (.agg (b8 (fun _ => false))) w :=
  (zero_of_info (P := Try.prog) (t := 35) (v := .agg (b8 (fun _ => false))) (n := 8) (by kernel_rfl)).1 w
/-- An act: its kind, place and word. -/
structure A3 where
  kd : Int
  pl : Nat
  vl : Nat
structure A3.Ok (c : A3) : Prop where
  pl : c.pl < 4294967296
  vl : c.vl < 4294967296
def A3.cells (c : A3) : Array Value := #[.int .i64 c.kd, .int .u32 (c.pl : Nat), .int .u32 (c.vl : Nat)]
def zeroA : A3 := ⟨0, 0, 0⟩
theorem size_act : (Try.prog.info? 37).map (·.size) = some 3 := by kernel_rfl
theorem zero_act (w : World) : (zeroValue 37).run Try.prog w = .ok (.agg zeroA.cells) w :=
  (zero_of_info (P := Try.prog) (t := 37) (v := .agg zeroA.cells) (n := 3) (by kernel_rfl)).1 w
theorem a_one (c : A3) : c.cells.all (·.oneCell') = true := by simp [A3.cells, Value.oneCell']
/-- Acts that came in. -/
def ActsAt (p : Option Addr) (n : Nat) (f : Nat → A3) (w : World) : Prop := ∀ j, j < n → (f j).Ok ∧ ∃ b o, p = some ⟨b, o, none⟩ ∧ w.rangeAt b (o + j * 3) (f j).cells.toList
theorem range_bl {w w' : World} {b o : Nat} {vs : List Value} (h : w.rangeAt b o vs) (hb : Below w.heap.size w w') : w'.rangeAt b o vs := fun j v hv => cell_bl hb (h j v hv)
variable {ops : Array Oper} {rest : List Oper} {dst : Option Tmp} {ty : TypeId} {pos : String} {after : Array Edge} {a : Act} {w : World} {Q : Exit → Act → World → Prop} {x y : Operand} {gd : Option (Nat × Bool)}
theorem al_b (N : Nat) (hN : w.heap.size = N)
    (k : ∀ W, RowAt W N (b8 (fun _ => false)) 35 → Below N w W → Hid (W.heap.size = N + 1) → wpList Try.prog ops Q rest (a.put dst (.pointer (some ⟨N, 0, none⟩))) W) :
    wpList Try.prog ops Q (⟨dst, .alloc 35, ty, pos, after, none⟩ :: rest) a w := op_alloc N hN _ zero_b8 k
theorem ld_b (b r : Nat) (f : Nat → Bool) (v : Bool) (hr' : r < 8) (hr : RowAt w b (b8 f) 35) (hv : f r = v) (hx : a.eval x = .pointer (some ⟨b, r, none⟩))
    (k : wpList Try.prog ops Q rest (a.put dst (.bool v)) w) : wpList Try.prog ops Q (⟨dst, .load 4 x, ty, pos, after, none⟩ :: rest) a w :=
  op_load_cell b r hx (b8 f) _ _ hr (hv ▸ b8_at f r hr') _ Try.underlying4 rfl k
theorem st_b (b r : Nat) (f : Nat → Bool) (v : Bool) (hr' : r < 8) (hr : RowAt w b (b8 f) 35) (hx : a.eval x = .pointer (some ⟨b, r, none⟩)) (hy : a.eval y = .bool v)
    (k : ∀ W, RowAt W b (b8 (setB f r v)) 35 → Only b w W → wpList Try.prog ops Q rest (a.put dst undef) W) : wpList Try.prog ops Q (⟨dst, .store 4 x y, ty, pos, after, none⟩ :: rest) a w :=
  op_store_cell b r hx _ hy (b8 f) _ _ hr size_bool (by show r < 8; exact hr') rfl (b8_set f r v hr') k
theorem g_ldb (b r : Nat) (f : Nat → Bool) (v : Bool) (hr' : r < 8) (hr : RowAt w b (b8 f) 35) (hv : f r = v) (hx : a.eval x = .pointer (some ⟨b, r, none⟩)) (hw : Region.wanted ⟨dst, .load 4 x, ty, pos, after, gd⟩ (yielded ops a.tmps) = true)
    (k : wpList Try.prog ops Q rest (a.put dst (.bool v)) w) : wpList Try.prog ops Q (⟨dst, .load 4 x, ty, pos, after, gd⟩ :: rest) a w :=
  BigFrame.wpList_want hw fun K hK => by
    have hcell : w.cell? ⟨b, r, none⟩ = some (.bool v) := (hr.cell r).trans (hv ▸ b8_at f r hr')
    have hrun : (loadVar 4 ⟨b, r, none⟩).run Try.prog w = .ok (.bool v) w := by
      have hagg : (isAgg 4).run Try.prog w = .ok false w := by
        unfold isAgg
        rw [Sem.run_bind, run_underlying Try.underlying4 w]
        rfl
      simp [loadVar, Sem.run_bind, hagg, hcell]
    unfold Oper.wp execOp
    simp only [hx, Instr.loadAt, Instr.sureAddr, Sem.run_bind, Sem.run_pure, Result.andThen_ok, hrun]
    exact hK _ _ k
theorem al_a (N : Nat) (hN : w.heap.size = N)
    (k : ∀ W, RowAt W N zeroA.cells 37 → Below N w W → Hid (W.heap.size = N + 1) → wpList Try.prog ops Q rest (a.put dst (.pointer (some ⟨N, 0, none⟩))) W) :
    wpList Try.prog ops Q (⟨dst, .alloc 37, ty, pos, after, none⟩ :: rest) a w := op_alloc N hN _ zero_act k
theorem st_a (b : Nat) (old c : A3) (hr : RowAt w b old.cells 37) (hx : a.eval x = .pointer (some ⟨b, 0, none⟩)) (hy : a.eval y = .agg c.cells)
    (k : ∀ W, RowAt W b c.cells 37 → Only b w W → wpList Try.prog ops Q rest (a.put dst undef) W) : wpList Try.prog ops Q (⟨dst, .store 37 x y, ty, pos, after, none⟩ :: rest) a w :=
  op_store b hx c.cells hy old.cells _ hr size_act rfl (a_one c) k
theorem ld_arg (b o : Nat) (c : A3) (hq : w.rangeAt b o c.cells.toList) (hx : a.eval x = .pointer (some ⟨b, o, none⟩))
    (k : wpList Try.prog ops Q rest (a.put dst (.agg c.cells)) w) : wpList Try.prog ops Q (⟨dst, .load 37 x, ty, pos, after, none⟩ :: rest) a w :=
  wpList_load_mid rfl 37 x rfl b o hx c.cells.toList _ hq Try.underlying37 rfl size_act k
theorem ld_kd (b : Nat) (c : A3) (hr : RowAt w b c.cells 37) (hx : a.eval x = .pointer (some ⟨b, 0, none⟩))
    (k : wpList Try.prog ops Q rest (a.put dst (.int .i64 c.kd)) w) : wpList Try.prog ops Q (⟨dst, .load 3 x, ty, pos, after, none⟩ :: rest) a w :=
  op_load_cell b 0 hx c.cells _ _ hr rfl _ Try.underlying3 rfl k
theorem ld_pl (b : Nat) (c : A3) (hr : RowAt w b c.cells 37) (hx : a.eval x = .pointer (some ⟨b, 1, none⟩))
    (k : wpList Try.prog ops Q rest (a.put dst (.int .u32 (c.pl : Nat))) w) : wpList Try.prog ops Q (⟨dst, .load 22 x, ty, pos, after, none⟩ :: rest) a w :=
  op_load_cell b 1 hx c.cells _ _ hr rfl _ Try.underlying22 rfl k
theorem ld_vl (b : Nat) (c : A3) (hr : RowAt w b c.cells 37) (hx : a.eval x = .pointer (some ⟨b, 2, none⟩))
    (k : wpList Try.prog ops Q rest (a.put dst (.int .u32 (c.vl : Nat))) w) : wpList Try.prog ops Q (⟨dst, .load 22 x, ty, pos, after, none⟩ :: rest) a w :=
  op_load_cell b 2 hx c.cells _ _ hr rfl _ Try.underlying22 rfl k
end Go.Proofs.Ytadgdgjmadchjaa
