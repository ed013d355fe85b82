/-
  A memory written to, byte by byte: what is so when d bytes are over.
-/
import Derived.Test.YtalcgipcephnnaaDoorJMeLook
namespace Go.Proofs.YtalcgipcephnnaaDoor
open Go.RowKit
set_option linter.unusedVariables false

def Mem.at (m : Mem) (x : Nat) : Nat := m.dat (x / 4096) (x % 4096)
structure Wrote (m k : Mem) (S a : Nat) (l : List Nat) (d : Nat) : Prop where
  n : k.n = m.n
  wr : k.wr = m.wr
  z : k.z = m.z
  dat : ∀ x, k.at x = if a ≤ x ∧ x < a + d then (l[x - a]?).getD 0 else m.at x
  dirty : ∀ p, k.dirty p = true ↔ (m.dirty p = true ∨ ∃ x, a ≤ x ∧ x < a + d ∧ x / 4096 = p)
  old : ∀ p g, k.blk p = some g → m.blk p = some g ∨ S ≤ g
  keep : ∀ p g, m.blk p = some g → k.blk p = some g
  there : ∀ x, a ≤ x → x < a + d → k.blk (x / 4096) ≠ none
theorem Wrote.start (m : Mem) (S a : Nat) (l : List Nat) : Wrote m m S a l 0 :=
  { n := rfl, wr := rfl, z := rfl, dat := fun x => by rw [if_neg (by omega)], dirty := fun p => ⟨.inl, fun h => h.elim id (fun ⟨x, h1, h2, _⟩ => absurd h2 (by omega))⟩,
    old := fun p g h => .inl h, keep := fun p g h => h, there := fun x h1 h2 => absurd h2 (by omega) }
theorem Wrote.step {m k : Mem} {S a : Nat} {l : List Nat} {d : Nat} (h : Wrote m k S a l d) {p o c g S' : Nat} (hp : p = (a + d) / 4096) (ho : o = (a + d) % 4096) (hc0 : 0 < c) (hc1 : o + c ≤ 4096) (hc2 : d + c ≤ l.length)
    (hg : k.blk p = some g ∨ S' ≤ g) (hS : S ≤ S') (hold : ∀ g', k.blk p = some g' → g' = g) : Wrote m ((k.touched p g).put p o ((l.drop d).take c)) S a l (d + c) := by
  have hlen : ((l.drop d).take c).length = c := by simp; omega
  refine { n := h.n, wr := h.wr, z := h.z, dat := fun x => ?_, dirty := fun q => ?_, old := fun q g' hq => ?_, keep := fun q g' hq => ?_, there := fun x h1 h2 => ?_ }
  · have e : ((k.touched p g).put p o ((l.drop d).take c)).at x = if x / 4096 = p ∧ o ≤ x % 4096 then (((l.drop d).take c)[x % 4096 - o]?).getD (k.at x) else k.at x := rfl
    rw [e, h.dat x]
    by_cases hx : a + d ≤ x ∧ x < a + (d + c)
    · rw [if_pos (show a ≤ x ∧ x < a + (d + c) by omega), if_pos (by omega), show x % 4096 - o = x - a - d by omega, List.getElem?_take_of_lt (by omega), List.getElem?_drop, show d + (x - a - d) = x - a by omega]
      rw [List.getElem?_eq_getElem (by omega)]; rfl
    · by_cases hy : a ≤ x ∧ x < a + d
      · rw [if_pos hy, if_pos (show a ≤ x ∧ x < a + (d + c) by omega)]
        rw [if_neg (by omega)]
      · rw [if_neg hy, if_neg (show ¬ (a ≤ x ∧ x < a + (d + c)) by omega)]
        by_cases hz : x / 4096 = p ∧ o ≤ x % 4096
        · rw [if_pos hz, List.getElem?_eq_none (by rw [hlen]; omega)]; rfl
        · rw [if_neg hz]
  · have e : ((k.touched p g).put p o ((l.drop d).take c)).dirty q = upd k.dirty p true q := rfl
    rw [e]
    by_cases hq : q = p
    · subst hq
      rw [upd_same]
      exact ⟨fun _ => .inr ⟨a + d, by omega, by omega, hp.symm⟩, fun _ => rfl⟩
    · rw [upd_other _ _ hq, h.dirty q]
      constructor
      · rintro (h1 | ⟨x, h1, h2, h3⟩)
        · exact .inl h1
        · exact .inr ⟨x, h1, by omega, h3⟩
      · rintro (h1 | ⟨x, h1, h2, h3⟩)
        · exact .inl h1
        · exact .inr ⟨x, h1, by omega, h3⟩
  · have e : upd k.blk p (some g) q = some g' := hq
    by_cases hqp : q = p
    · subst hqp
      rw [upd_same] at e
      obtain rfl := Option.some.inj e
      rcases hg with h1 | h1
      · exact h.old _ _ h1
      · exact .inr (by omega)
    · rw [upd_other _ _ hqp] at e
      exact h.old _ _ e
  · show upd k.blk p (some g) q = some g'
    by_cases hqp : q = p
    · subst hqp
      rw [upd_same, hold g' (h.keep _ _ hq)]
    · rw [upd_other _ _ hqp]; exact h.keep _ _ hq
  · show upd k.blk p (some g) (x / 4096) ≠ none
    by_cases hqp : x / 4096 = p
    · rw [hqp, upd_same]; simp
    · rw [upd_other _ _ hqp]
      exact h.there x h1 (by omega)

theorem Wrote.owns {m k : Mem} {S a : Nat} {l : List Nat} {d : Nat} (h : Wrote m k S a l d) {b P D x : Nat} (hx : x < S) (ho : k.owns b P D x) : m.owns b P D x := by
  rcases ho with h1 | h1 | h1 | ⟨p, h1, h2⟩
  · exact .inl h1
  · exact .inr (.inl h1)
  · exact .inr (.inr (.inl h1))
  · rcases h.old p x h2 with h3 | h3
    · exact .inr (.inr (.inr ⟨p, h.n ▸ h1, h3⟩))
    · omega
theorem Kept.then {B : Nat} {a b c : World} {own own' : Nat → Prop} (h : Kept B a b own) (k : Kept B b c own') (i : ∀ x, x < a.heap.size → own' x → own x) : Kept B a c own :=
  ⟨h.below.trans k.below, Nat.le_trans h.size k.size, fun x hx hn => (k.other x (Nat.lt_of_lt_of_le hx h.size) (fun e => hn (i x hx e))).trans (h.other x hx hn)⟩
end Go.Proofs.YtalcgipcephnnaaDoor
