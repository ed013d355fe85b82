/-
  What the law's sure answers.
-/
import Derived.Test.YtadgdgjmadchjaaDoorPlRead
import Derived.Test.YtadgdgjmadchjaaDoorPlEq
namespace Go.Proofs.YtadgdgjmadchjaaDoor
open Go.RowKit
set_option linter.unusedVariables false

def sure0 : P5 := ⟨fun i => if i = 1 then 3 else if i = 2 then 5 else 0, 6, 0, 0, 0⟩
def sure1 : P5 := ⟨fun i => if i = 1 then 3 else if i = 2 then 5 else 0, 6, 0, 6, 0⟩
def sure2 : P5 := ⟨fun i => if i = 1 then 3 else if i = 2 then 5 else 0, 6, 0, 2, 4⟩
theorem sure_pr (i : Nat) : (if i = 1 then 3 else if i = 2 then 5 else 0) < 4294967296 := by split <;> (try split) <;> decide
theorem sure0_ok : sure0.Ok := ⟨sure_pr, by decide, by decide, by decide, by decide⟩
theorem sure1_ok : sure1.Ok := ⟨sure_pr, by decide, by decide, by decide, by decide⟩
theorem sure2_ok : sure2.Ok := ⟨sure_pr, by decide, by decide, by decide, by decide⟩
theorem sure_best1 : bestV sure1 = 2 := by decide +kernel
theorem sure_best2 : bestV sure2 = 1 := by decide +kernel
theorem sure_read : readV sure1 2097156 = (sure2, 2, 0) := by
  show (serveV sure1 (bestV sure1), bestV sure1, 0) = _
  rw [sure_best1]; rfl
theorem built_s : Tryd.prog.built 23 [(0, .int .u32 0), (1, .int .u32 3), (2, .int .u32 5)] = some sure0.prs := by kernel_rfl
theorem built_p : Tryd.prog.built 26 [(1, .int .u32 6), (0, .agg sure0.prs)] = some sure0.cells := by kernel_rfl
variable {ops : Array Oper} {rest : List Oper} {dst : Option Tmp} {ty : TypeId} {pos : String} {after : Array Edge} {a : Act} {w : World} {Q : Exit → Act → World → Prop}
theorem bd_s {x0 x1 x2 : Operand} (h0 : a.eval x0 = .int .u32 0) (h1 : a.eval x1 = .int .u32 3) (h2 : a.eval x2 = .int .u32 5)
    (k : wpList Tryd.prog ops Q rest (a.put dst (.agg sure0.prs)) w) : wpList Tryd.prog ops Q (⟨dst, .build 23 #[(0, x0), (1, x1), (2, x2)], ty, pos, after, none⟩ :: rest) a w := by
  have hp : ((#[(0, x0), (1, x1), (2, x2)] : Array (Nat × Operand)).map fun (i, x) => (i, a.eval x)).toList = [(0, .int .u32 0), (1, .int .u32 3), (2, .int .u32 5)] := by
    simp [h0, h1, h2]
  refine wpList_build rfl 23 _ rfl ?_ ?_
  · rw [hp, built_s]; rfl
  · rw [hp, built_s]; exact k
theorem bd_p {x0 x1 : Operand} (h0 : a.eval x0 = .int .u32 6) (h1 : a.eval x1 = .agg sure0.prs)
    (k : wpList Tryd.prog ops Q rest (a.put dst (.agg sure0.cells)) w) : wpList Tryd.prog ops Q (⟨dst, .build 26 #[(1, x0), (0, x1)], ty, pos, after, none⟩ :: rest) a w := by
  have hp : ((#[(1, x0), (0, x1)] : Array (Nat × Operand)).map fun (i, x) => (i, a.eval x)).toList = [(1, .int .u32 6), (0, .agg sure0.prs)] := by
    simp [h0, h1]
  refine wpList_build rfl 26 _ rfl ?_ ?_
  · rw [hp, built_p]; rfl
  · rw [hp, built_p]; exact k
theorem gl_p {x : Operand} {gd : Option (Nat × Bool)} (b : Nat) (h : P5) (hr : RowAt w b h.cells 26) (hx : a.eval x = .pointer (some ⟨b, 0, none⟩)) (hw : Region.wanted ⟨dst, .load 26 x, ty, pos, after, gd⟩ (yielded ops a.tmps) = true)
    (k : wpList Tryd.prog ops Q rest (a.put dst (.agg h.cells)) w) : wpList Tryd.prog ops Q (⟨dst, .load 26 x, ty, pos, after, gd⟩ :: rest) a w :=
  BigFrame.wpList_want hw fun K hK => wp_load_row 26 x rfl b hx _ h.cells (0, 0) _ hr Tryd.underlying26 rfl size_p (hK _ _ k)

set_option maxHeartbeats 1000000 in
theorem sure_any (w : World) :
    Calls Tryd.prog 12 #[] w fun e w' => e = .returned (.bool true) ∧ Below w.heap.size w w' := by
  have HL := hide (fun w => level_any sure0 sure0_ok 6 (by decide) w)
  rw [show levelV sure0 6 = sure1 from rfl, show (((6 : Nat) : Int)) = 6 from rfl] at HL
  have HR := hide (fun w => read_any sure1 sure1_ok 2097156 w)
  rw [sure_read, show (((2097156 : Nat) : Int)) = 2097156 from rfl] at HR
  have HE : Hid (errP 0 = .nilIface) := hide rfl
  simp only at HR
  rw [HE.out, show (((2 : Nat) : Int)) = 2 from rfl] at HR
  have HB := hide (fun w => best_any sure2 sure2_ok w)
  rw [sure_best2, show (((1 : Nat) : Int)) = 1 from rfl] at HB
  go_enter Tryd.func12, Tryd.ntmps12
  go_wp2_with (first | ((with_reducible refine bd_s ?_ ?_ ?_ ?_); exact rfl; exact rfl; exact rfl) | ((with_reducible refine bd_p ?_ ?_ ?_); exact rfl; exact rfl) | ((with_reducible refine al_p w.heap.size ?_ ?_); exact rfl; intro W hx hb hz) | ((with_reducible refine st_p w.heap.size _ sure0 hx ?_ ?_ ?_); exact rfl; exact rfl; intro W hnew ho; replace hx := hnew; replace hb := ho.bel _ _ (by omega) hb) | ((with_reducible refine ld_p w.heap.size sure0 hx ?_ ?_); exact rfl) | (go_at_call 23; refine (HL.out _).mono ?_; rintro e W ⟨rfl, hbc⟩; replace hx := hx.bl hbc; replace hb := below_bl rfl hb hbc) | ((with_reducible refine st_p w.heap.size _ sure1 hx ?_ ?_ ?_); exact rfl; exact rfl; intro W hnew ho; replace hx := hnew; replace hb := ho.bel _ _ (by omega) hb) | ((with_reducible refine ld_p w.heap.size sure1 hx ?_ ?_); exact rfl) | (go_at_call 5; refine (HR.out _).mono ?_; rintro e W ⟨rfl, hbc⟩; replace hx := hx.bl hbc; replace hb := below_bl rfl hb hbc; obtain ⟨NY, hNY⟩ : ∃ n, W.heap.size = n := ⟨_, rfl⟩; have lNY : w.heap.size + 1 ≤ NY := (by (have := hx.lt; omega)); replace hNY := hide hNY) | ((with_reducible refine al_p NY ?_ ?_); exact hNY.out; intro W hy hb' hz2; replace hb := hb.trans (hb'.mono (by omega))) | ((with_reducible refine st_p NY _ sure2 hy ?_ ?_ ?_); exact rfl; exact rfl; intro W hnew ho; replace hy := hnew; replace hb := ho.bel _ _ (by omega) hb) | ((with_reducible refine gl_p NY sure2 hy ?_ ?_ ?_); exact rfl; exact rfl) | (go_at_call 10; refine (HB.out _).mono ?_; rintro e W ⟨rfl, hbc⟩; replace hb := below_bl rfl hb hbc))
  go_ret
  exact ⟨rfl, hb⟩
end Go.Proofs.YtadgdgjmadchjaaDoor
