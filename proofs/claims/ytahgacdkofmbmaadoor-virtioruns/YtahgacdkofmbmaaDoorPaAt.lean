/-
  Lists that came in two by two, and lists that are written out. Of no package.
-/
import Derived.Test.YtahgacdkofmbmaaDoorMeOps
namespace Go.Proofs.YtahgacdkofmbmaaDoor
open Go.RowKit
set_option linter.unusedVariables false

/-- Words that came in, two by two. -/
structure PairsAt (w : World) (B : Nat) (la : Option Addr) (len : Nat) (g : Nat → Nat → Nat) : Prop where
  lies : ∀ j, j < len → ∃ b o, la = some ⟨b, o, none⟩ ∧ b < B ∧ w.cell? ⟨b, o + j * 2, none⟩ = some (.int .u32 (g j 0 : Nat)) ∧ w.cell? ⟨b, o + j * 2 + 1, none⟩ = some (.int .u32 (g j 1 : Nat))
  small : ∀ j, j < len → g j 0 < 4294967296 ∧ g j 1 < 4294967296
theorem PairsAt.rise {w w' : World} {B B' : Nat} {la : Option Addr} {len : Nat} {g : Nat → Nat → Nat} (h : PairsAt w B la len g) (hb : Below B w w') (hB : B ≤ B') : PairsAt w' B' la len g :=
  ⟨fun j hj => by
    obtain ⟨b, o, e, h1, h2, h3⟩ := h.lies j hj
    exact ⟨b, o, e, Nat.lt_of_lt_of_le h1 hB, (hb.cell (p := ⟨b, o + j * 2, none⟩) h1).trans h2, (hb.cell (p := ⟨b, o + j * 2 + 1, none⟩) h1).trans h3⟩, h.small⟩
variable {P : Program} {ops : Array Oper} {rest : List Oper} {dst : Option Tmp} {ty : TypeId} {pos : String} {after : Array Edge} {a : Act} {w W w0 : World} {Q : Exit → Act → World → Prop} {x y : Operand} {t t' : TypeId} {cs : Array Value} {b B n c p : Nat} {f : Nat → Nat} {O O1 O' : Nat → Prop} {row : Option Nat} {e size : Nat} {v : Value} {xs : List Value} {g : Nat}
structure BuiltR (P : Program) (e : TypeId) (n : Nat) (L : List (Nat × Value)) (C : Array Value) : Prop where
  h : P.builtSlice e n L = some C
/-- A list that is written out, in a block of its own. -/
theorem op_bsn {parts : Array (Nat × Operand)} (t e : TypeId) (n : Nat) (hu : P.underlying t = some (.slice e)) (C : Array Value) (N : Nat) (hN : w.heap.size = N) (L : List (Nat × Value)) (hL : (parts.map fun p => (p.1, a.eval p.2)).toList = L) (hf : BuiltR P e n L C)
    (k : ∀ W, RowAt W N C e → Below N w W → Hid (W.heap.size = N + 1) → wpList P ops Q rest (a.put dst (.slice (some ⟨N, 0, none⟩) n n)) W) :
    wpList P ops Q (⟨dst, .buildSlice t n parts, ty, pos, after, none⟩ :: rest) a w := by
  subst hN hL
  replace hf := hf.h
  unfold Program.builtSlice at hf
  cases hie : P.info? e with
  | none => simp [hie] at hf
  | some ie =>
    simp only [hie] at hf
    cases hz : ie.zero with
    | none => simp [hz] at hf
    | some z =>
      simp only [hz] at hf
      by_cases hc : n * ie.size > 2 ^ 24 ∨ n * ie.size = 0
      · simp [hc] at hf
      · rw [if_neg hc] at hf
        refine wpList_plain rfl fun K hK => ?_
        exact wp_buildSlice t e n parts rfl C ie z hu hie hz (fun h' => hc (Or.inl h')) (fun h' => hc (Or.inr h')) hf (hK _ _ (k _ (RowAt.new w _ C e rfl) (below_one w _) (hide (by simp))))
end Go.Proofs.YtahgacdkofmbmaaDoor
