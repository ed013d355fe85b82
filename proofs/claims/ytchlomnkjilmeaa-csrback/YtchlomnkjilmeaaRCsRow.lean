/-
  A block of eight cells: its row, its cells, and what becomes of it behind new blocks and stores.
-/
import Derived.Test.YtchlomnkjilmeaaCsProg
import Derived.Test.YtchlomnkjilmeaaCsKeep
namespace Go.Proofs.Ytchlomnkjilmeaa
open Go.RowKit
set_option linter.unusedVariables false

/-- Block b is these cells. -/
def RowAt (w : World) (b : Nat) (cs : Array Value) (t : TypeId) : Prop := w.heap[b]? = some (.cells cs t (0, 0))
theorem RowAt.lt {w : World} {b : Nat} {cs : Array Value} {t : TypeId} (h : RowAt w b cs t) : b < w.heap.size := by
  rcases Nat.lt_or_ge b w.heap.size with h' | h'
  · exact h'
  · unfold RowAt at h; rw [Array.getElem?_eq_none h'] at h; cases h
theorem RowAt.al {w : World} {b : Nat} {cs : Array Value} {t : TypeId} (h : RowAt w b cs t) (o : Obj) : RowAt (w.alloc o) b cs t := by
  have hk := h.lt
  unfold RowAt at *
  rw [Below.heap_alloc _ _ _ hk]; exact h
theorem RowAt.dr {w : World} {b : Nat} {cs : Array Value} {t : TypeId} (h : RowAt w b cs t) : RowAt w.drew b cs t := h
theorem RowAt.dn {w : World} {b : Nat} {cs : Array Value} {t : TypeId} (h : RowAt w b cs t) (n : Nat) : RowAt (w.drewN n) b cs t := h
theorem RowAt.new (w : World) (b : Nat) (cs : Array Value) (t : TypeId) (h : w.heap.size = b) : RowAt (w.alloc (.cells cs t)) b cs t := by
  subst h; exact heap_alloc_new w _
theorem RowAt.put {w : World} {b : Nat} {cs : Array Value} {t : TypeId} (h : RowAt w b cs t) (j : Nat) (v : Value) : RowAt (w.setCell ⟨b, j, none⟩ v) b (cs.setIfInBounds j v) t :=
  heap_setCell_same w b j _ _ _ h
theorem RowAt.far {w : World} {b : Nat} {cs : Array Value} {t : TypeId} (h : RowAt w b cs t) {g : Nat} (hg : b ≠ g) (j : Nat) (v : Value) : RowAt (w.setCell ⟨g, j, none⟩ v) b cs t := by
  unfold RowAt at *
  rw [Below.heap_setCell _ _ _ _ hg]; exact h
theorem RowAt.bl {w w' : World} {b : Nat} {cs : Array Value} {t : TypeId} (h : RowAt w b cs t) (hb : Below w.heap.size w w') : RowAt w' b cs t :=
  (hb.block b h.lt).trans h
theorem RowAt.cell {w : World} {b : Nat} {cs : Array Value} {t : TypeId} (h : RowAt w b cs t) (j : Nat) : w.cell? ⟨b, j, none⟩ = cs[j]? := cell_of_row _ _ _ _ _ (0, 0) h
theorem RowAt.thaw {w : World} {b : Nat} {cs : Array Value} {t : TypeId} (h : RowAt w b cs t) (j : Nat) : w.frozen? ⟨b, j, none⟩ = false := frozen_of_row w b j _ _ h
theorem RowAt.put456 {W : World} {b : Nat} {t : TypeId} {z0 z1 z2 z3 z4 z5 z6 z7 : Value} (h : RowAt W b #[z0, z1, z2, z3, z4, z5, z6, z7] t) (v4 v5 v6 : Value) :
    RowAt (((W.setCell ⟨b, 4, none⟩ v4).setCell ⟨b, 5, none⟩ v5).setCell ⟨b, 6, none⟩ v6) b #[z0, z1, z2, z3, v4, v5, v6, z7] t := by
  have h8 := ((h.put 4 v4).put 5 v5).put 6 v6
  simp only [List.setIfInBounds_toArray, List.set_cons_zero, List.set_cons_succ] at h8
  exact h8
/-- Eight stores, one behind the other. -/
theorem RowAt.put8 {W : World} {b : Nat} {t : TypeId} {z0 z1 z2 z3 z4 z5 z6 z7 : Value} (h : RowAt W b #[z0, z1, z2, z3, z4, z5, z6, z7] t) (v0 v1 v2 v3 v4 v5 v6 v7 : Value) :
    RowAt ((((((((W.setCell ⟨b, 0, none⟩ v0).setCell ⟨b, 1, none⟩ v1).setCell ⟨b, 2, none⟩ v2).setCell ⟨b, 3, none⟩ v3).setCell ⟨b, 4, none⟩ v4).setCell ⟨b, 5, none⟩ v5).setCell ⟨b, 6, none⟩ v6).setCell ⟨b, 7, none⟩ v7) b #[v0, v1, v2, v3, v4, v5, v6, v7] t := by
  have h8 := (((((((h.put 0 v0).put 1 v1).put 2 v2).put 3 v3).put 4 v4).put 5 v5).put 6 v6).put 7 v7
  simp only [List.setIfInBounds_toArray, List.set_cons_zero, List.set_cons_succ] at h8
  exact h8
theorem below_put8 {n : Nat} {w W : World} {b : Nat} (h : Below n w W) (hn : n ≤ b) (v0 v1 v2 v3 v4 v5 v6 v7 : Value) : Below n w ((((((((W.setCell ⟨b, 0, none⟩ v0).setCell ⟨b, 1, none⟩ v1).setCell ⟨b, 2, none⟩ v2).setCell ⟨b, 3, none⟩ v3).setCell ⟨b, 4, none⟩ v4).setCell ⟨b, 5, none⟩ v5).setCell ⟨b, 6, none⟩ v6).setCell ⟨b, 7, none⟩ v7) :=
  (((((((h.setCell hn v0).setCell hn v1).setCell hn v2).setCell hn v3).setCell hn v4).setCell hn v5).setCell hn v6).setCell hn v7
end Go.Proofs.Ytchlomnkjilmeaa
