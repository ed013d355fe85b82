/-
  The law's sure.
-/
import Derived.Test.YtghpjibjhaomoaaGreatDoorJMeHarv
namespace Go.Proofs.YtghpjibjhaomoaaGreatDoor
open Go.RowKit
set_option linter.unusedVariables false
attribute [local go_sem ↓] Go.wp_at_zero Go.wp_at_succ

end Go.Proofs.YtghpjibjhaomoaaGreatDoor
namespace Go.Proofs.YtghpjibjhaomoaaGreatDoor
open Go.RowKit
set_option linter.unusedVariables false
attribute [local go_sem ↓] Go.wp_at_zero Go.wp_at_succ

theorem Mem.dat_at (m : Mem) (p o : Nat) (ho : o < 4096) : m.dat p o = m.at (p * 4096 + o) := by
  show _ = m.dat ((p * 4096 + o) / 4096) ((p * 4096 + o) % 4096)
  rw [show (p * 4096 + o) / 4096 = p by omega, show (p * 4096 + o) % 4096 = o by omega]
theorem Wrote.byte {m k : Mem} {S a : Nat} {l : List Nat} {d : Nat} (h : Wrote m k S a l d) (hm : ∀ x, m.at x < 256) (hl : ∀ y, y ∈ l → y < 256) (x : Nat) : k.at x < 256 := by
  rw [h.dat x]
  split
  · cases hx : l[x - a]? with
    | none => decide
    | some y => exact hl y (List.mem_of_getElem? hx)
  · exact hm x
theorem numB_lt (v k : Nat) : ∀ y, y ∈ numB v k → y < 256 := by
  intro y hy
  obtain ⟨j, _, rfl⟩ := List.mem_map.1 hy
  exact Nat.mod_lt _ (by decide)
theorem sure_seven {q : Mem} {S : Nat} (h : Wrote (Mem.fresh 2) q S 4096 (numB 7 4) 4) : getN (fun j => UInt8.ofNat (q.dat (4096 / 4096) j)) (4096 % 4096) 4 = 7 := by
  have e : ∀ j, j < 4 → q.dat 1 j = (numB 7 4)[j]?.getD 0 := fun j hj => by
    rw [q.dat_at 1 j (by omega), h.dat, if_pos (by omega), show 1 * 4096 + j - 4096 = j by omega]
  have e0 : q.dat 1 0 = 7 := (e 0 (by omega)).trans (by decide)
  have e1 : q.dat 1 1 = 0 := (e 1 (by omega)).trans (by decide)
  have e2 : q.dat 1 2 = 0 := (e 2 (by omega)).trans (by decide)
  have e3 : q.dat 1 3 = 0 := (e 3 (by omega)).trans (by decide)
  have f : ∀ g : Nat → UInt8, g 0 = 7 → g 1 = 0 → g 2 = 0 → g 3 = 0 → getN g 0 4 = 7 := fun g g0 g1 g2 g3 => by
    simp [getN, accN, upto, downAt, List.range, List.range.loop, g0, g1, g2, g3]
  refine f _ ?_ ?_ ?_ ?_
  · show UInt8.ofNat (q.dat 1 0) = 7; rw [e0]; rfl
  · show UInt8.ofNat (q.dat 1 1) = 0; rw [e1]; rfl
  · show UInt8.ofNat (q.dat 1 2) = 0; rw [e2]; rfl
  · show UInt8.ofNat (q.dat 1 3) = 0; rw [e3]; rfl
theorem sure_dirty {q : Mem} {S : Nat} (h : Wrote (Mem.fresh 2) q S 4096 (numB 7 4) 4) : dirtyTo q 2 = [1] := by
  have d1 : q.dirty 1 = true := (h.dirty 1).2 (.inr ⟨4096, by omega, by omega, by omega⟩)
  have d0 : q.dirty 0 = false := by
    cases hd : q.dirty 0 with
    | false => rfl
    | true =>
      rcases (h.dirty 0).1 hd with e | ⟨x, h1, h2, h3⟩
      · cases e
      · omega
  rw [dirtyTo_yes d1, dirtyTo_no d0]; rfl
end Go.Proofs.YtghpjibjhaomoaaGreatDoor
