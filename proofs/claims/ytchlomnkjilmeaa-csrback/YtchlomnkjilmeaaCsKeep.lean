/-
  What a call leaves of the cells that lay: laws that the walks share.
-/
import Derived.Test.YtchlomnkjilmeaaCsProg
import Derived.Deep.RegionHeld3
namespace Go.Proofs.Ytchlomnkjilmeaa
open Go.RowKit
set_option linter.unusedVariables false

theorem lt_of_cell {w : World} {g j : Nat} {v : Value} (h : w.cell? ⟨g, j, none⟩ = some v) : g < w.heap.size := by
  rcases Nat.lt_or_ge g w.heap.size with h' | h'
  · exact h'
  · simp [World.cell?, Array.getElem?_eq_none h'] at h
theorem cell_bl {w w' : World} (hb : Below w.heap.size w w') {g j : Nat} {v : Value} (h : w.cell? ⟨g, j, none⟩ = some v) : w'.cell? ⟨g, j, none⟩ = some v :=
  (hb.cell (p := ⟨g, j, none⟩) (lt_of_cell h)).trans h
theorem below_bl {n : Nat} {w a b : World} (hn : n = w.heap.size) (h : Below n w a) (hb : Below a.heap.size a b) : Below n w b := by
  subst hn; exact h.trans (hb.mono h.size)

/-- A call that only makes memory keeps what holds of all that lay. -/
theorem Calls.kept {P : Program} {f : Nat} {args : Array Value} {r : Value} {w1 : World} {S : World → Prop} (hk : ∀ a b, Below a.heap.size a b → S a → S b) (hs : S w1)
    (h : Calls P f args w1 fun e w2 => e = .returned r ∧ Below w1.heap.size w1 w2) : Calls P f args w1 fun e w2 => e = .returned r ∧ S w2 :=
  h.mono fun e w2 ⟨he, hb⟩ => ⟨he, hk _ _ hb hs⟩
theorem Calls.bel1 {P : Program} {f : Nat} {args : Array Value} {r : Value} {w1 : World} (h : Calls P f args w1 fun e w2 => e = .returned r ∧ ∃ o, w2 = w1.alloc o) : Calls P f args w1 fun e w2 => e = .returned r ∧ Below w1.heap.size w1 w2 :=
  h.mono fun e w2 ⟨he, o, hw⟩ => ⟨he, hw ▸ below_one _ _⟩
theorem Calls.bel2 {P : Program} {f : Nat} {args : Array Value} {r : Value} {w1 : World} (h : Calls P f args w1 fun e w2 => e = .returned r ∧ ∃ o o', w2 = (w1.alloc o).alloc o') : Calls P f args w1 fun e w2 => e = .returned r ∧ Below w1.heap.size w1 w2 :=
  h.mono fun e w2 ⟨he, o, o', hw⟩ => ⟨he, hw ▸ below_two _ _ _⟩
theorem Calls.bel3 {P : Program} {f : Nat} {args : Array Value} {r : Value} {w1 : World} (h : Calls P f args w1 fun e w2 => e = .returned r ∧ ∃ o o' p, w2 = ((w1.alloc o).alloc o').alloc p) : Calls P f args w1 fun e w2 => e = .returned r ∧ Below w1.heap.size w1 w2 :=
  h.mono fun e w2 ⟨he, o, o', p, hw⟩ => ⟨he, hw ▸ below_three _ _ _ _⟩
end Go.Proofs.Ytchlomnkjilmeaa
