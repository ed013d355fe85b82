/-
  Sizes of files, of so many sections.
-/
import Derived.Test.YtkahkkcbigifiaaDoorTvSec
namespace Go.Proofs.YtkahkkcbigifiaaDoor
open Go.RowKit
set_option linter.unusedVariables false
set_option linter.unusedSimpArgs false

theorem size_le : ∀ (L : List Sct) (k : Nat), sizeL (L.take k) ≤ sizeL L
  | [], k => by simp [sizeL]
  | s :: L, 0 => by
    have : ∀ L, 16 ≤ sizeL L := fun L => by induction L with
      | nil => exact Nat.le_refl _
      | cons s L ih => simp only [sizeL]; omega
    exact this _
  | s :: L, k + 1 => by
    have := size_le L k
    simp only [List.take_succ_cons, sizeL]
    omega
theorem size_succ : ∀ (L : List Sct) (k : Nat) (hk : k < L.length), sizeL (L.take (k + 1)) = sizeL (L.take k) + 12 + L[k].b.length
  | [], k, hk => by simp at hk
  | s :: L, 0, _ => by simp [sizeL]; omega
  | s :: L, k + 1, hk => by
    have := size_succ L k (by simpa using hk)
    simp only [List.take_succ_cons, sizeL, List.getElem_cons_succ]
    omega
theorem secs_succ : ∀ (L : List Sct) (k : Nat) (hk : k < L.length), secsL (L.take (k + 1)) = secsL (L.take k) ++ secL L[k]
  | [], k, hk => by simp at hk
  | s :: L, 0, _ => by simp [secsL]
  | s :: L, k + 1, hk => by
    have := secs_succ L k (by simpa using hk)
    simp only [List.take_succ_cons, secsL, List.getElem_cons_succ, this, List.append_assoc]
theorem b_le : ∀ (L : List Sct) (s : Sct), s ∈ L → s.b.length + 16 ≤ sizeL L
  | [], s, h => by cases h
  | t :: L, s, h => by
    have h16 : 16 ≤ sizeL L := by have := secs_len L; omega
    rcases List.mem_cons.1 h with rfl | h
    · simp only [sizeL]; omega
    · have := b_le L s h
      simp only [sizeL]; omega
def encB (ver : Nat) (L : List Sct) : List Nat := if encE L = 0 then fileL ver L else []
variable {P : Program} {ops : Array Oper} {rest : List Oper} {dst : Option Tmp} {ty t t2 : TypeId} {pos : String} {after : Array Edge} {a : Act} {w : World} {Q : Exit → Act → World → Prop} {K : Act → World → Prop} {x y z : Operand} {gd : Option (Nat × Bool)}
theorem y_any {S : World → Prop} (b j : Nat) (v : Value) (hS : ∀ V, S V → V.cell? ⟨b, j, none⟩ = some v) (d : TypeDesc) (hu : P.underlying t = some d) (hd : d.isRow = false) (hx : a.eval x = .pointer (some ⟨b, j, none⟩)) (hw : Region.wanted ⟨dst, .load t x, ty, pos, after, gd⟩ (yielded ops a.tmps) = true) :
    YieldsIf P ops S ⟨dst, .load t x, ty, pos, after, gd⟩ v a :=
  .inl ⟨hw, fun V hV => by
    have hcell := hS V hV
    have hrun : (loadVar t ⟨b, j, none⟩).run P V = .ok v V := by
      have hagg : (isAgg t).run P V = .ok false V := by
        unfold isAgg
        rw [Sem.run_bind, run_underlying hu V]
        cases d <;> simp_all
      simp [loadVar, Sem.run_bind, hagg, hcell]
    unfold execOp
    simp only [hx, Instr.loadAt, Instr.sureAddr, Sem.run_bind, Sem.run_pure, Result.andThen_ok, hrun]⟩
def EnRel (L : List Sct) (ver n N : Nat) (w0 : World) (bv iv : Value) (wr : World) : Prop := ∃ k : Nat, k ≤ n ∧ iv = .int .i64 (k : Nat) ∧ Own N 5 wr bv (openL ver n ++ secsL (L.take k)) ∧ Below N w0 wr
theorem pn_row : #[Value.int .u8 80, .int .u8 78, .int .u8 67, .int .u8 69] = (byV [80, 78, 67, 69]).toArray := rfl
theorem pn_lt : ∀ c ∈ [80, 78, 67, 69], c < 256 := by decide
end Go.Proofs.YtkahkkcbigifiaaDoor
