/-
  touch, of a memory that lies somewhere.
-/
import Derived.Test.YtijeceibkdcdaaaDoorMeTouch
namespace Go.Proofs.YtijeceibkdcdaaaDoor
open Go.RowKit
set_option linter.unusedVariables false

/-- What a step leaves as it was: all blocks but those of the memory; more may be there. -/
structure Kept (B : Nat) (w w' : World) (own : Nat → Prop) : Prop where
  below : Below B w w'
  size : w.heap.size ≤ w'.heap.size
  other : ∀ x, x < w.heap.size → ¬ own x → w'.heap[x]? = w.heap[x]?
theorem Kept.refl (B : Nat) (w : World) (own : Nat → Prop) : Kept B w w own := ⟨Below.refl _ _, Nat.le_refl _, fun _ _ _ => rfl⟩
theorem Kept.trans {B : Nat} {a b c : World} {own : Nat → Prop} (h : Kept B a b own) (k : Kept B b c own) : Kept B a c own :=
  ⟨h.below.trans k.below, Nat.le_trans h.size k.size, fun x hx hn => (k.other x (Nat.lt_of_lt_of_le hx h.size) hn).trans (h.other x hx hn)⟩
theorem Kept.set {B : Nat} {w : World} {own : Nat → Prop} {g j : Nat} (hg : own g) (hB : B ≤ g) (v : Value) : Kept B w (w.setCell ⟨g, j, none⟩ v) own :=
  ⟨(Below.refl _ _).setCell (p := ⟨g, j, none⟩) hB v, by simp [World.setCell], fun x _ hn => Below.heap_setCell _ _ _ _ (fun e => hn (by subst e; exact hg))⟩
theorem Kept.al {B : Nat} {w : World} {own : Nat → Prop} (hB : B ≤ w.heap.size) (o : Obj) : Kept B w (w.alloc o) own :=
  ⟨(Below.refl _ _).alloc hB o, by simp, fun x hx _ => Below.heap_alloc _ _ _ hx⟩
theorem Kept.dr {B : Nat} {w w' : World} {own : Nat → Prop} (h : Kept B w w' own) : Kept B w w'.drew own := ⟨h.below.drew, h.size, h.other⟩
theorem Kept.mono {B : Nat} {w w' : World} {own own' : Nat → Prop} (h : Kept B w w' own) (i : ∀ x, own x → own' x) : Kept B w w' own' := ⟨h.below, h.size, fun x hx hn => h.other x hx (fun k => hn (i x k))⟩
theorem Kept.holds {B : Nat} {w w' : World} {own : Nat → Prop} (h : Kept B w w' own) {b n : Nat} {t : TypeId} {f : Nat → Value} (hh : HoldsAt w b n t f) (hn : ¬ own b) : HoldsAt w' b n t f := by
  obtain ⟨cs, hr, hs, hf⟩ := hh.row
  exact ⟨cs, (h.other b hr.lt hn).trans hr, hs, hf⟩

/-- The blocks of a memory. -/
def Mem.owns (m : Mem) (b P D x : Nat) : Prop := x = b ∨ x = P ∨ x = D ∨ ∃ p, p < m.n ∧ m.blk p = some x

theorem touch_ram {w : World} {B b P D : Nat} {m : Mem} (h : RamAt w B b P D m) (hB : B ≤ w.heap.size) {p : Nat} (hp : p < m.n) :
    Calls Tryd.prog 28 #[.pointer (some ⟨b, 0, none⟩), .int .i64 p] w fun e w' => ∃ g, e = .returned (.slice (some ⟨g, 0, none⟩) 4096 4096) ∧ RamAt w' B b P D (m.touched p g) ∧ Kept B w w' (m.owns b P D) ∧ (m.blk p = some g ∨ (m.blk p = none ∧ w.heap.size ≤ g)) := by
  obtain ⟨nn, oo, hr⟩ := h.head
  have c0 : w.cell? ⟨b, 0, none⟩ = some (.slice (some ⟨P, 0, none⟩) m.n m.n) := hr.cell 0
  have c1 : w.cell? ⟨b, 1, none⟩ = some (.slice (some ⟨D, 0, none⟩) m.n m.n) := hr.cell 1
  have cp := h.pages.cell hp
  have cd := h.marks.cell hp
  have fd := h.marks.thaw p
  have fp := h.pages.thaw p
  obtain ⟨a1, a2, a3, a4⟩ := h.apart
  obtain ⟨l1, l2, l3, l4⟩ := h.low
  cases hb : m.blk p with
  | some g =>
    rw [hb] at cp
    refine (touch_there b P D m.n p g hp h.few w c0 c1 cp _ cd fd a2 a3).mono ?_
    rintro e w' ⟨rfl, rfl⟩
    refine ⟨g, rfl, ?_, Kept.set (Or.inr (Or.inr (Or.inl rfl))) l3 _, Or.inl rfl⟩
    have hm := h.mark hp
    have e : { m with dirty := upd m.dirty p true } = m.touched p g := by
      unfold Mem.touched
      have : upd m.blk p (some g) = m.blk := by
        funext q
        by_cases hq : q = p
        · subst hq; rw [upd_same, hb]
        · rw [upd_other _ _ hq]
      rw [this]
    rw [← e]; exact hm
  | none =>
    rw [hb] at cp
    refine (touch_made b P D m.n p hp h.few w c0 c1 cp fp _ cd fd a1 a2 a3).mono ?_
    rintro e w' ⟨rfl, rfl⟩
    refine ⟨w.heap.size, rfl, ?_, ?_, Or.inr ⟨rfl, Nat.le_refl _⟩⟩
    · have hsw : ((w.setCell ⟨P, p, none⟩ (.slice (some ⟨w.heap.size, 0, none⟩) 4096 4096)).alloc newPage).setCell ⟨D, p, none⟩ (.bool true) = ((w.setCell ⟨P, p, none⟩ (.slice (some ⟨w.heap.size, 0, none⟩) 4096 4096)).setCell ⟨D, p, none⟩ (.bool true)).alloc newPage :=
        World.setCell_alloc_past _ _ _ _ (by have := h.marks.lt; simpa [World.setCell] using this)
      have hm := (h.page hB hp hb).mark hp
      rw [hsw] at hm
      obtain ⟨n', o', hr'⟩ := hm.head
      exact { head := ⟨n', o', hr'.dr⟩, pages := hm.pages.dr, marks := hm.marks.dr, bytes := fun q g hq hg => (hm.bytes q g hq hg).dr, noughts := hm.noughts, low := hm.low, apart := hm.apart, alone := hm.alone, few := hm.few }
    · have k1 : Kept B w (w.setCell ⟨P, p, none⟩ (.slice (some ⟨w.heap.size, 0, none⟩) 4096 4096)) (m.owns b P D) := Kept.set (Or.inr (Or.inl rfl)) l2 _
      have k2 := k1.trans (Kept.set (w := w.setCell ⟨P, p, none⟩ (.slice (some ⟨w.heap.size, 0, none⟩) 4096 4096)) (own := m.owns b P D) (g := D) (j := p) (Or.inr (Or.inr (Or.inl rfl))) l3 (.bool true))
      exact (k2.trans (Kept.al (Nat.le_trans hB k2.size) newPage)).dr
end Go.Proofs.YtijeceibkdcdaaaDoor
