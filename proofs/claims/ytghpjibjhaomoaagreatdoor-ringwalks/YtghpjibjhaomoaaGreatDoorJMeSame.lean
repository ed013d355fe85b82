/-
  mem's Same of two memories that lie apart.
-/
import Derived.Test.YtghpjibjhaomoaaGreatDoorJMeEq
import Derived.BigQuiet
import Derived.Deep.CutRange
import Derived.Deep.QuietTactic
namespace Go.Proofs.YtghpjibjhaomoaaGreatDoor
open Go.RowKit
set_option linter.unusedVariables false
attribute [local go_sem ↓] Go.wp_at_zero Go.wp_at_succ

/-- The one's blocks are not the other's. -/
structure Off (m : Mem) (b P D : Nat) (k : Mem) (c Q E : Nat) : Prop where
  no : ∀ x, m.owns b P D x → ¬ (k.owns c Q E x ∨ k.z = some x)
theorem RamAt.other {w w' : World} {B b P D c Q E : Nat} {m k : Mem} (h : RamAt w B c Q E k) (ho : Off m b P D k c Q E) (hk : Kept B w w' (m.owns b P D)) : RamAt w' B c Q E k :=
  h.same (fun x hx => hk.other x (hx.elim (fun h1 => h.owned h1) (fun h1 => h.z_lt h1)) (fun h1 => ho.no x h1 hx))
/-- Behind a look at the one, or at the other, they are apart still. -/
theorem Off.left {b P D c Q E : Nat} {m m' k : Mem} (h : Off m b P D k c Q E) (hl : Looked m m') : Off m' b P D k c Q E := ⟨fun x hx => h.no x (hl.owns.1 hx)⟩
theorem Off.right {w : World} {B b P D c Q E : Nat} {m k k' : Mem} (h : Off m b P D k c Q E) (hm : RamAt w B b P D m) (hl : Looked k k') (hz : k'.z = k.z ∨ ∃ x, k'.z = some x ∧ w.heap.size ≤ x) : Off m b P D k' c Q E :=
  ⟨fun x hx hh => by
    rcases hh with h1 | h1
    · exact h.no x hx (.inl (hl.owns.1 h1))
    · rcases hz with e | ⟨y, e1, e2⟩
      · exact h.no x hx (.inr (e ▸ h1))
      · have : x = y := Option.some.inj (h1.symm.trans e1)
        have := hm.owned hx
        omega⟩
end Go.Proofs.YtghpjibjhaomoaaGreatDoor
