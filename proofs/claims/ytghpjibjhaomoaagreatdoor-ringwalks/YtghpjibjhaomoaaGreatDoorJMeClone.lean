/-
  mem's Clone: another memory with the same bytes and marks, all its blocks new.
-/
import Derived.Test.YtghpjibjhaomoaaGreatDoorJMeClo
import Derived.Deep.CutRange
import Derived.Deep.DrawnRows
namespace Go.Proofs.YtghpjibjhaomoaaGreatDoor
open Go.RowKit
set_option linter.unusedVariables false
attribute [local go_sem ↓] Go.wp_at_zero Go.wp_at_succ

theorem RamAt.got {w : World} {B c Q E : Nat} {k : Mem} (h : RamAt w B c Q E k) {i x C : Nat} {f : Nat → Nat} (hi : i < k.n) (hz : k.z = none) (hx : HoldsAt w x 4096 5 (fun o => .int .u8 (f o : Nat))) (hxB : B ≤ x)
    (hf1 : x ≠ c) (hf2 : x ≠ Q) (hf3 : x ≠ E) (hf4 : ∀ p, p < k.n → k.blk p ≠ some x) (hC : 4096 ≤ C) (hC2 : C ≤ maxLen) :
    RamAt (w.setCell ⟨Q, i, none⟩ (.slice (some ⟨x, 0, none⟩) 4096 C)) B c Q E { k with blk := upd k.blk i (some x), dat := upd k.dat i f, cap := upd k.cap i C } := by
  have hr := h.head
  obtain ⟨a1, a2, a3, a4⟩ := h.apart
  obtain ⟨l1, l2, l3, l4⟩ := h.low
  have blk' : ∀ q g, upd k.blk i (some x) q = some g → (q = i ∧ g = x) ∨ (q ≠ i ∧ k.blk q = some g) := fun q g hg => by
    by_cases hq : q = i
    · subst hq; rw [upd_same] at hg; exact .inl ⟨rfl, (Option.some.inj hg).symm⟩
    · rw [upd_other _ _ hq] at hg; exact .inr ⟨hq, hg⟩
  exact { head := hr.far a1 i _, zero := fun g hg => (by (rw [show k.z = some g from hg] at hz; cases hz)),
          pages := (h.pages.put hi (.slice (some ⟨x, 0, none⟩) 4096 C)).congr (fun j _ => by
            by_cases hj : j = i
            · subst hj; rw [upd_same]; show _ = pageV (upd k.cap j C j) (upd k.blk j (some x) j); rw [upd_same, upd_same]; rfl
            · rw [upd_other _ _ hj]; show _ = pageV (upd k.cap i C j) (upd k.blk i (some x) j); rw [upd_other _ _ hj, upd_other _ _ hj]),
          marks := h.marks.far (fun e => a3 e.symm) i _,
          bytes := fun q g hq hg => by
            rcases blk' q g hg with ⟨rfl, rfl⟩ | ⟨hqp, hg'⟩
            · refine (hx.far hf2 _ _).congr (fun j _ => ?_)
              show _ = Value.int .u8 ((upd k.dat q f q j : Nat) : Int)
              rw [upd_same]
            · refine ((h.bytes q g hq hg').far (a4 q g hq hg').2.1 i _).congr (fun j _ => ?_)
              show _ = Value.int .u8 ((upd k.dat i f q j : Nat) : Int)
              rw [upd_other _ _ hqp],
          noughts := fun q hq hn o => by
            have hqi : q ≠ i := fun e => by
              subst e
              have : upd k.blk q (some x) q = none := hn
              rw [upd_same] at this; cases this
            show upd k.dat i f q o = 0
            rw [upd_other _ _ hqi]
            have : upd k.blk i (some x) q = none := hn
            rw [upd_other _ _ hqi] at this
            exact h.noughts q hq this o,
          low := ⟨l1, l2, l3, fun q g hq hg => by
            rcases blk' q g hg with ⟨rfl, rfl⟩ | ⟨hqp, hg'⟩
            · exact hxB
            · exact l4 q g hq hg'⟩,
          apart := ⟨a1, a2, a3, fun q g hq hg => by
            rcases blk' q g hg with ⟨rfl, rfl⟩ | ⟨hqp, hg'⟩
            · exact ⟨hf1, hf2, hf3⟩
            · exact a4 q g hq hg'⟩,
          alone := fun p q g hp hq hne h1 h2 => by
            rcases blk' p g h1 with ⟨e1, e2⟩ | ⟨e1, e2⟩
            · rcases blk' q g h2 with ⟨e3, e4⟩ | ⟨e3, e4⟩
              · exact hne (e1.trans e3.symm)
              · exact hf4 q hq (e2 ▸ e4)
            · rcases blk' q g h2 with ⟨e3, e4⟩ | ⟨e3, e4⟩
              · exact hf4 p hp (e4 ▸ e2)
              · exact h.alone p q g hp hq hne e2 e4,
          few := h.few,
          caps := fun q hq => by
            show 4096 ≤ upd k.cap i C q ∧ upd k.cap i C q ≤ maxLen ∧ (upd k.blk i (some x) q = none → upd k.cap i C q = 4096)
            by_cases hqi : q = i
            · subst hqi
              rw [upd_same, upd_same]
              exact ⟨hC, hC2, fun e => by cases e⟩
            · rw [upd_other _ _ hqi, upd_other _ _ hqi]
              exact h.caps q hq,
          room := h.room }
/-- A page that is not there stays so, if nothing is stored in its place. -/
theorem RamAt.void {w : World} {B c Q E : Nat} {k : Mem} (h : RamAt w B c Q E k) {i : Nat} (hi : i < k.n) (hz : k.z = none) (hb : k.blk i = none) :
    RamAt (w.setCell ⟨Q, i, none⟩ (.slice none 0 0)) B c Q E k := by
  have hr := h.head
  obtain ⟨a1, a2, a3, a4⟩ := h.apart
  exact { head := hr.far a1 i _, zero := fun g hg => (by (rw [show k.z = some g from hg] at hz; cases hz)),
          pages := (h.pages.put hi (.slice none 0 0)).congr (fun j _ => by
            by_cases hj : j = i
            · subst hj; rw [upd_same, hb]; rfl
            · rw [upd_other _ _ hj]),
          marks := h.marks.far (fun e => a3 e.symm) i _,
          bytes := fun q g hq hg => (h.bytes q g hq hg).far (a4 q g hq hg).2.1 i _,
          noughts := h.noughts, low := h.low, apart := h.apart, alone := h.alone, few := h.few, caps := h.caps, room := h.room }
theorem RamAt.counts {w : World} {B b P D : Nat} {m : Mem} (h : RamAt w B b P D m) (x : Nat) : RamAt (w.setCell ⟨b, 2, none⟩ (.int .i64 (x : Nat))) B b P D { m with wr := x } := by
  have hr := h.head
  obtain ⟨a1, a2, a3, a4⟩ := h.apart
  exact { head := hr.put 2 _, zero := fun g hg => (by (obtain ⟨z1, z2, z3, z4⟩ := h.zero g hg; exact ⟨z1.far z3 _ _, z2, z3, z4⟩)), pages := h.pages.far (fun e => a1 e.symm) _ _, marks := h.marks.far (fun e => a2 e.symm) _ _, bytes := fun q g hq hg => (h.bytes q g hq hg).far (a4 q g hq hg).1 _ _, noughts := h.noughts, low := h.low, apart := h.apart, alone := h.alone, few := h.few, caps := h.caps, room := h.room }
theorem RamAt.lower {w : World} {B B' b P D : Nat} {m : Mem} (h : RamAt w B' b P D m) (hB : B ≤ B') : RamAt w B b P D m := by
  obtain ⟨l1, l2, l3, l4⟩ := h.low
  exact { head := h.head, zero := fun g hg => (by (obtain ⟨z1, z2, z3⟩ := h.zero g hg; exact ⟨z1, Nat.le_trans hB z2, z3⟩)), pages := h.pages, marks := h.marks, bytes := h.bytes, noughts := h.noughts,
          low := ⟨Nat.le_trans hB l1, Nat.le_trans hB l2, Nat.le_trans hB l3, fun p g hp hg => Nat.le_trans hB (l4 p g hp hg)⟩, apart := h.apart, alone := h.alone, few := h.few, caps := h.caps, room := h.room }

/-- What Clone has made when i pages are over. -/
structure Cloned (m k : Mem) (i : Nat) : Prop where
  n : k.n = m.n
  dirty : k.dirty = m.dirty
  z : k.z = none
  dat : ∀ p o, p < i → k.dat p o = m.dat p o
  rest : ∀ p, i ≤ p → k.blk p = none

theorem cloned_start {w : World} {B c Q E C : Nat} {m : Mem} (hn : m.n ≤ 16384) (hr : RowAt w c (ramV Q E m.n C 0 (.slice none 0 0) 0) 131) (hQ : HoldsAt w Q m.n 28 (fun _ => .slice none 0 0)) (hE : HoldsAt w E m.n 4 (fun p => .bool (m.dirty p)))
    (hC : m.n ≤ C) (hC2 : C ≤ maxLen) (h1 : B ≤ c) (h2 : B ≤ Q) (h3 : B ≤ E) (a1 : c ≠ Q) (a2 : c ≠ E) (a3 : Q ≠ E) :
    RamAt w B c Q E ⟨m.n, fun _ => none, fun _ _ => 0, m.dirty, 0, none, fun _ => 4096, C⟩ :=
  { head := hr, zero := fun g h => (by cases h), pages := hQ, marks := hE, bytes := fun p g _ h => by simp at h, noughts := fun p _ _ o => rfl, low := ⟨h1, h2, h3, fun p g _ h => by simp at h⟩, apart := ⟨a1, a2, a3, fun p g _ h => by simp at h⟩,
    alone := fun p q g _ _ _ h => by simp at h, few := hn, caps := fun p _ => ⟨Nat.le_refl _, (by show 4096 ≤ maxLen; unfold maxLen; omega), fun _ => rfl⟩, room := ⟨hC, hC2⟩ }

end Go.Proofs.YtghpjibjhaomoaaGreatDoor
