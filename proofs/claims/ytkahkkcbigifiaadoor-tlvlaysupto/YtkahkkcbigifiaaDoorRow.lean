/-
  Blocks and cells: what stays behind new blocks, stores and calls. Of no package.
-/
import Derived.Test.YtkahkkcbigifiaaDoorBase
import Derived.Below
import Derived.WalkSmall
namespace Go.Proofs.YtkahkkcbigifiaaDoor
open Go.RowKit
set_option linter.unusedVariables false

theorem lt_of_cell {w : World} {g j : Nat} {v : Value} (h : w.cell? ⟨g, j, none⟩ = some v) : g < w.heap.size := by
  rcases Nat.lt_or_ge g w.heap.size with h' | h'
  · exact h'
  · simp [World.cell?, Array.getElem?_eq_none h'] at h
theorem cell_bl {w w' : World} (hb : Below w.heap.size w w') {g j : Nat} {v : Value} (h : w.cell? ⟨g, j, none⟩ = some v) : w'.cell? ⟨g, j, none⟩ = some v :=
  (hb.cell (p := ⟨g, j, none⟩) (lt_of_cell h)).trans h
theorem below_bl {n : Nat} {w a b : World} (hn : n = w.heap.size) (h : Below n w a) (hb : Below a.heap.size a b) : Below n w b := by
  subst hn; exact h.trans (hb.mono h.size)
theorem below_one (w : World) (a : Obj) : Below w.heap.size w (w.alloc a) := (Below.refl _ w).alloc (Nat.le_refl _) _
theorem below_two (w : World) (a b : Obj) : Below w.heap.size w ((w.alloc a).alloc b) := ((Below.refl _ w).alloc (Nat.le_refl _) _).alloc (by simp) _
theorem below_three (w : World) (a b c : Obj) : Below w.heap.size w (((w.alloc a).alloc b).alloc c) := (((Below.refl _ w).alloc (Nat.le_refl _) _).alloc (by simp) _).alloc (by simp; omega) _
theorem cellA {w : World} {g j : Nat} {v : Value} (h : w.cell? ⟨g, j, none⟩ = some v) (o : Obj) : (w.alloc o).cell? ⟨g, j, none⟩ = some v := cell_bl (below_one _ _) h
theorem cellD {w : World} {g j : Nat} {v : Value} (h : w.cell? ⟨g, j, none⟩ = some v) : w.drew.cell? ⟨g, j, none⟩ = some v := h

/-- A call that only makes memory keeps what holds of all that lay. -/
theorem Calls.kept {P : Program} {f : Nat} {args : Array Value} {r : Value} {w1 : World} {S : World → Prop} (hk : ∀ a b, Below a.heap.size a b → S a → S b) (hs : S w1)
    (h : Calls P f args w1 fun e w2 => e = .returned r ∧ Below w1.heap.size w1 w2) : Calls P f args w1 fun e w2 => e = .returned r ∧ S w2 :=
  h.mono fun _ _ ⟨he, hb⟩ => ⟨he, hk _ _ hb hs⟩

/-- Block b is these cells. -/
def RowAt (w : World) (b : Nat) (cs : Array Value) (t : TypeId) : Prop := w.heap[b]? = some (.cells cs t (0, 0))
theorem RowAt.lt {w : World} {b : Nat} {cs : Array Value} {t : TypeId} (h : RowAt w b cs t) : b < w.heap.size := by
  rcases Nat.lt_or_ge b w.heap.size with h' | h'
  · exact h'
  · unfold RowAt at h; rw [Array.getElem?_eq_none h'] at h; cases h
theorem RowAt.al {w : World} {b : Nat} {cs : Array Value} {t : TypeId} (h : RowAt w b cs t) (o : Obj) : RowAt (w.alloc o) b cs t := by
  have hk := h.lt
  unfold RowAt at *
  rw [Below.heap_alloc _ _ _ hk]; exact h
theorem RowAt.dr {w : World} {b : Nat} {cs : Array Value} {t : TypeId} (h : RowAt w b cs t) : RowAt w.drew b cs t := h
theorem RowAt.dn {w : World} {b : Nat} {cs : Array Value} {t : TypeId} (h : RowAt w b cs t) (n : Nat) : RowAt (w.drewN n) b cs t := h
theorem RowAt.new (w : World) (b : Nat) (cs : Array Value) (t : TypeId) (h : w.heap.size = b) : RowAt (w.alloc (.cells cs t)) b cs t := by
  subst h; exact heap_alloc_new w _
theorem RowAt.put {w : World} {b : Nat} {cs : Array Value} {t : TypeId} (h : RowAt w b cs t) (j : Nat) (v : Value) : RowAt (w.setCell ⟨b, j, none⟩ v) b (cs.setIfInBounds j v) t :=
  heap_setCell_same w b j _ _ _ h
theorem RowAt.far {w : World} {b : Nat} {cs : Array Value} {t : TypeId} (h : RowAt w b cs t) {g : Nat} (hg : b ≠ g) (j : Nat) (v : Value) : RowAt (w.setCell ⟨g, j, none⟩ v) b cs t := by
  unfold RowAt at *
  rw [Below.heap_setCell _ _ _ _ hg]; exact h
theorem RowAt.bl {w w' : World} {b : Nat} {cs : Array Value} {t : TypeId} (h : RowAt w b cs t) (hb : Below w.heap.size w w') : RowAt w' b cs t :=
  (hb.block b h.lt).trans h
theorem RowAt.cell {w : World} {b : Nat} {cs : Array Value} {t : TypeId} (h : RowAt w b cs t) (j : Nat) : w.cell? ⟨b, j, none⟩ = cs[j]? := cell_of_row _ _ _ _ _ (0, 0) h
theorem RowAt.thaw {w : World} {b : Nat} {cs : Array Value} {t : TypeId} (h : RowAt w b cs t) (j : Nat) : w.frozen? ⟨b, j, none⟩ = false := frozen_of_row w b j _ _ h
theorem RowAt.one {w : World} {b : Nat} {cs ds : Array Value} {t u : TypeId} (h : RowAt w b cs t) (k : RowAt w b ds u) : cs = ds := by
  unfold RowAt at *
  rw [h] at k
  injection k with k
  injection k
end Go.Proofs.YtkahkkcbigifiaaDoor
