/-
  A part of bytes.
-/
import Derived.Test.YtkahkkcbigifiaaDoorSmBy
namespace Go.Proofs.YtkahkkcbigifiaaDoor
open Go.RowKit
set_option linter.unusedVariables false
set_option linter.unusedSimpArgs false

variable {P : Program} {ops : Array Oper} {rest : List Oper} {dst : Option Tmp} {ty t t2 : TypeId} {pos : String} {after : Array Edge} {a : Act} {w : World} {Q : Exit → Act → World → Prop} {K : Act → World → Prop} {x y z : Operand} {gd : Option (Nat × Bool)}
/-- From one place to another one. -/
theorem ex_mid {B : Nat} {w0 : World} {v : Value} {l : List Nat} (h : Rd B w0 v l) {lo hi : Nat} (hlo : lo ≤ hi) (hn : hi ≤ l.length) (ht : P.underlying t = some (.slice (P.elem t))) (hs : ∀ w, (sizeOf (P.elem t)).run P w = .ok 1 w) (hx : a.eval x = v) (hy : a.eval y = .int .i64 (lo : Nat)) (hz : a.eval z = .int .i64 (hi : Nat)) (w : World) :
    (execOp a.eval ⟨dst, .slice t x (some y) (some z) none, ty, pos, after, gd⟩).run P w = .ok (.value (sFrom (sTo v hi) lo)) w := by
  obtain ⟨ad, cap, rfl, h3, h4⟩ := h.form
  unfold execOp
  simp only [hx, hy, hz, Option.map_some, Option.map_none, Sem.run_bind, Sem.run_pure, run_sliceAt_slice w t _ _ _ _ ht, run_slice_lh w t ad l.length cap ht .i64 .i64 (lo : Nat) (hi : Nat) (by omega) (by omega) (by omega), hs, Result.andThen_ok, sliced]
  simp [sFrom, sTo]
theorem Rd.mid {B : Nat} {w : World} {v : Value} {l : List Nat} (h : Rd B w v l) {lo hi : Nat} (hlo : lo ≤ hi) (hn : hi ≤ l.length) : Rd B w (sFrom (sTo v hi) lo) ((l.drop lo).take (hi - lo)) := by
  have := (h.to hn).frm (n := lo) (by rw [List.length_take]; omega)
  rwa [List.drop_take] at this
end Go.Proofs.YtkahkkcbigifiaaDoor
