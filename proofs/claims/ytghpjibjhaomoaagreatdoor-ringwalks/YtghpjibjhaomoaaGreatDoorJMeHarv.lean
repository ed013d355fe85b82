/-
  mem's Harvest.
-/
import Derived.Test.YtghpjibjhaomoaaGreatDoorJMeStore
import Derived.Deep.AppendSrc
import Derived.OwnWalk
import Derived.Test.YtghpjibjhaomoaaGreatDoorJMeDig
namespace Go.Proofs.YtghpjibjhaomoaaGreatDoor
open Go.RowKit
set_option linter.unusedVariables false
attribute [local go_sem ↓] Go.wp_at_zero Go.wp_at_succ

/-- The dirty pages, of the first k. -/
def dirtyTo (m : Mem) (k : Nat) : List Nat := (List.range k).filter fun p => m.dirty p
def intV (l : List Nat) : List Value := l.map fun x => .int .i64 (x : Nat)
theorem dirtyTo_yes {m : Mem} {k : Nat} (h : m.dirty k = true) : dirtyTo m (k + 1) = dirtyTo m k ++ [k] := by
  simp [dirtyTo, List.range_succ, List.filter_append, h]
theorem dirtyTo_no {m : Mem} {k : Nat} (h : m.dirty k = false) : dirtyTo m (k + 1) = dirtyTo m k := by
  simp [dirtyTo, List.range_succ, List.filter_append, h]
theorem dirtyTo_len (m : Mem) (k : Nat) : (dirtyTo m k).length ≤ k := by
  have := List.length_filter_le (fun p => m.dirty p) (List.range k)
  simpa [dirtyTo] using this

theorem own_block_ge {W : World} {B e sz n : Nat} {v : Value} {xs : List Value} (h : W.ownsRow B e sz v n xs) (j : Nat) (hj : v.ownBlock = some j) : B ≤ j := by
  obtain ⟨h1, ⟨rfl, _⟩ | ⟨g, cap, cur, rfl, e2, _⟩⟩ := h
  · cases hj
  · cases hj; exact e2

end Go.Proofs.YtghpjibjhaomoaaGreatDoor
namespace Go.Proofs.YtghpjibjhaomoaaGreatDoor
open Go.RowKit
set_option linter.unusedVariables false
attribute [local go_sem ↓] Go.wp_at_zero Go.wp_at_succ

def noB (n : Nat) : List Value := (Builtin.zeroCells #[.bool false] n).toList
theorem noB_len (n : Nat) : (noB n).length = n := by simp [noB, Builtin.zeroCells]
theorem noB_at {n j : Nat} (h : j < n) : (noB n)[j]? = some (.bool false) := by
  simp [noB, Builtin.zeroCells, h, Nat.mod_one]
theorem run_clear_bools (w : World) (ty : TypeId) (b n c : Nat) (hn : 0 < n) (hc : ∀ j, j < n → (w.cell? ⟨b, j, none⟩).isSome = true) (hf : ∀ j, j < n → w.frozen? ⟨b, j, none⟩ = false) :
    (Builtin.clear_ #[29] ty #[.slice (some ⟨b, 0, none⟩) n c]).run Tryz.prog w = .ok (.tuple #[]) (w.setCells b 0 (noB n)) := by
  have hl : (noB n).length = n := noB_len n
  have hst := run_storeCells_cells (P := Tryz.prog) b 0 (noB n) 0 w (by rw [hl]; simpa using hc) (by rw [hl]; simpa using hf) (by
    intro v hv
    obtain ⟨j, hj, rfl⟩ := List.mem_iff_getElem.1 hv
    have h2 := noB_at (n := n) (j := j) (by rw [hl] at hj; exact hj)
    rw [List.getElem?_eq_getElem hj] at h2
    rw [Option.some.inj h2]
    rfl)
  simp only [Nat.add_zero] at hst
  obtain ⟨m, rfl⟩ : ∃ m, n = m + 1 := ⟨n - 1, by omega⟩
  have hz : ∀ w, (zeroValue 4).run Tryz.prog w = .ok (.bool false) w := Tryz.zeroValue4
  unfold noB at hst ⊢
  simp [Builtin.clear_, run_underlying Tryz.underlying29, hz, Value.cells, hst]
/-- No page is dirty any more. -/
def Mem.clean (m : Mem) : Mem := { m with dirty := fun _ => false }
theorem RamAt.cleaned {w : World} {B b P D : Nat} {m : Mem} (h : RamAt w B b P D m) : RamAt (w.setCells D 0 (noB m.n)) B b P D m.clean := by
  obtain ⟨a1, a2, a3, a4⟩ := h.apart
  have far : ∀ x, x ≠ D → (w.setCells D 0 (noB m.n)).heap[x]? = w.heap[x]? := fun x hx => heap_setCells _ _ _ _ _ hx
  exact { head := (far b a2).trans h.head, zero := fun g hg => (by (obtain ⟨z1, z2, z3, z4, z5, z6⟩ := h.zero g hg; exact ⟨z1.of_heap (far g z5), z2, z3, z4, z5, z6⟩)),
          pages := h.pages.of_heap (far P a3), marks := (h.marks.puts (noB m.n) 0 (by rw [noB_len]; omega)).congr (fun j hj => by
            rw [if_pos (Nat.zero_le _), Nat.sub_zero, noB_at hj]; rfl),
          bytes := fun q g hq hg => (h.bytes q g hq hg).of_heap (far g (a4 q g hq hg).2.2), noughts := h.noughts, low := h.low, apart := h.apart, alone := h.alone, few := h.few, caps := h.caps, room := h.room }
def ClearOk (w : World) (ty : TypeId) (D n dc : Nat) : Prop := (Builtin.clear_ #[29] ty #[.slice (some ⟨D, 0, none⟩) n dc]).run Tryz.prog w = .ok (.tuple #[]) (w.setCells D 0 (noB n))
theorem ClearOk.eq {w : World} {ty : TypeId} {D n dc : Nat} (h : ClearOk w ty D n dc) : (Builtin.clear_ #[29] ty #[.slice (some ⟨D, 0, none⟩) n dc]).run Tryz.prog w = .ok (.tuple #[]) (w.setCells D 0 (noB n)) := h
theorem own_far {W W' : World} {B e sz n : Nat} {v : Value} {xs : List Value} (h : W.ownsRow B e sz v n xs) (hh : ∀ g, B ≤ g → W'.heap[g]? = W.heap[g]?) : W'.ownsRow B e sz v n xs := by
  obtain ⟨h1, h2 | ⟨g, cap, cur, e1, e2, e3, e4⟩⟩ := h
  · exact ⟨h1, Or.inl h2⟩
  · exact ⟨h1, Or.inr ⟨g, cap, cur, e1, e2, (hh g e2).trans e3, e4⟩⟩
end Go.Proofs.YtghpjibjhaomoaaGreatDoor
