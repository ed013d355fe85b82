/-
  Bytes put into a page.
-/
import Derived.Test.YtijeceibkdcdaaaDoorMeAdd
import Derived.Laws.IdiomCopy
namespace Go.Proofs.YtijeceibkdcdaaaDoor
open Go.RowKit
set_option linter.unusedVariables false

theorem heap_setCells (g : Nat) : ∀ (vs : List Value) (o : Nat) (w : World) (x : Nat), x ≠ g → (w.setCells g o vs).heap[x]? = w.heap[x]?
  | [], _, _, _, _ => rfl
  | v :: r, o, w, x, h => by
    rw [World.setCells, heap_setCells g r _ _ x h, Below.heap_setCell _ _ _ _ (by simpa using h)]
theorem size_setCells (g : Nat) : ∀ (vs : List Value) (o : Nat) (w : World), (w.setCells g o vs).heap.size = w.heap.size
  | [], _, _ => rfl
  | v :: r, o, w => by rw [World.setCells, size_setCells g r]; simp [World.setCell]
theorem HoldsAt.puts {b n : Nat} {t : TypeId} : ∀ (vs : List Value) (o : Nat) {w : World} {f : Nat → Value}, HoldsAt w b n t f → o + vs.length ≤ n →
    HoldsAt (w.setCells b o vs) b n t (fun j => if o ≤ j then (vs[j - o]?).getD (f j) else f j)
  | [], o, w, f, h, _ => by
    rw [World.setCells]
    exact h.congr (fun j _ => by simp)
  | v :: r, o, w, f, h, hl => by
    rw [World.setCells]
    have hl' : o + 1 + r.length ≤ n := by simp at hl; omega
    refine (HoldsAt.puts r (o + 1) (h.put (by simp at hl; omega) v) hl').congr (fun j _ => ?_)
    by_cases h1 : o + 1 ≤ j
    · rw [if_pos h1, if_pos (by omega), upd_other _ _ (by omega)]
      obtain ⟨k, hk⟩ : ∃ k, j - o = k + 1 := ⟨j - o - 1, by omega⟩
      rw [hk, show j - (o + 1) = k by omega, List.getElem?_cons_succ]
    · rw [if_neg h1]
      by_cases h2 : j = o
      · subst h2
        rw [upd_same, if_pos (Nat.le_refl _), Nat.sub_self]; rfl
      · rw [upd_other _ _ h2, if_neg (by omega)]
theorem HoldsAt.puts_far {w : World} {b n : Nat} {t : TypeId} {f : Nat → Value} (h : HoldsAt w b n t f) {g : Nat} (hg : b ≠ g) (o : Nat) (vs : List Value) : HoldsAt (w.setCells g o vs) b n t f := by
  obtain ⟨cs, hr, hs, hf⟩ := h.row
  exact ⟨cs, (heap_setCells g vs o w b hg).trans hr, hs, hf⟩
theorem Kept.sets {B : Nat} {w : World} {own : Nat → Prop} {g : Nat} (hg : own g) (hB : B ≤ g) (o : Nat) (vs : List Value) : Kept B w (w.setCells g o vs) own := by
  induction vs generalizing o w with
  | nil => exact Kept.refl _ _ _
  | cons v r ih => rw [World.setCells]; exact (Kept.set hg hB v).trans (ih (o + 1))

/-- A memory with bytes put into a page, from a place on. -/
def Mem.put (m : Mem) (p o : Nat) (l : List Nat) : Mem := { m with dat := fun q x => if q = p ∧ o ≤ x then (l[x - o]?).getD (m.dat q x) else m.dat q x }
def byteV (l : List Nat) : List Value := l.map fun x => .int .u8 (x : Nat)
theorem RamAt.puts {w : World} {B b P D : Nat} {m : Mem} (h : RamAt w B b P D m) {p g o : Nat} (hp : p < m.n) (hg : m.blk p = some g) (l : List Nat) (hl : o + l.length ≤ 4096) :
    RamAt (w.setCells g o (byteV l)) B b P D (m.put p o l) := by
  obtain ⟨nn, oo, hr⟩ := h.head
  obtain ⟨a1, a2, a3, a4⟩ := h.apart
  obtain ⟨b1, b2, b3⟩ := a4 p g hp hg
  refine { head := ⟨nn, oo, (heap_setCells g _ o w b (fun e => b1 e.symm)).trans hr⟩, pages := h.pages.puts_far (fun e => b2 e.symm) _ _, marks := h.marks.puts_far (fun e => b3 e.symm) _ _,
           bytes := fun q g' hq hg' => ?_, noughts := fun q hq hn x => ?_, low := h.low, apart := h.apart, alone := h.alone, few := h.few }
  · by_cases hqp : q = p
    · subst hqp
      obtain rfl : g = g' := Option.some.inj (hg.symm.trans hg')
      refine ((h.bytes q g hq hg').puts (byteV l) o (by simpa [byteV] using hl)).congr (fun j _ => ?_)
      show _ = Value.int .u8 ((((m.put q o l).dat q j : Nat)) : Int)
      by_cases hj : o ≤ j
      · have e : (m.put q o l).dat q j = (l[j - o]?).getD (m.dat q j) := if_pos ⟨rfl, hj⟩
        rw [if_pos hj, e, byteV, List.getElem?_map]
        cases l[j - o]? <;> rfl
      · have e : (m.put q o l).dat q j = m.dat q j := if_neg (fun k => hj k.2)
        rw [if_neg hj, e]
    · have hne : g' ≠ g := fun e => h.alone q p g' hq hp hqp hg' (e ▸ hg)
      refine ((h.bytes q g' hq hg').puts_far hne _ _).congr (fun j _ => ?_)
      show _ = Value.int .u8 ((((m.put p o l).dat q j : Nat)) : Int)
      have e : (m.put p o l).dat q j = m.dat q j := if_neg (fun k => hqp k.1)
      rw [e]
  · have hqp : q ≠ p := fun e => by
      subst e
      have : m.blk q = none := hn
      rw [hg] at this; cases this
    have e : (m.put p o l).dat q x = m.dat q x := if_neg (fun k => hqp k.1)
    rw [e]; exact h.noughts q hq hn x
end Go.Proofs.YtijeceibkdcdaaaDoor
