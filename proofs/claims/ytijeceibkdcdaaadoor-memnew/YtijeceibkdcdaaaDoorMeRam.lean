/-
  A memory as plain functions, and where it lies.
-/
import Derived.Test.YtijeceibkdcdaaaDoorMeNew
namespace Go.Proofs.YtijeceibkdcdaaaDoor
open Go.RowKit
set_option linter.unusedVariables false

/-- How many pages; where each lies, if it was made; its bytes; which are dirty; how many writes. -/
structure Mem where
  n : Nat
  blk : Nat → Option Nat
  dat : Nat → Nat → Nat
  dirty : Nat → Bool
  wr : Nat

def pageV : Option Nat → Value
  | none => .slice none 0 0
  | some g => .slice (some ⟨g, 0, none⟩) 4096 4096

def upd {α : Type} (f : Nat → α) (p : Nat) (x : α) : Nat → α := fun q => if q = p then x else f q
theorem upd_same {α : Type} (f : Nat → α) (p : Nat) (x : α) : upd f p x p = x := if_pos rfl
theorem upd_other {α : Type} (f : Nat → α) {p q : Nat} (x : α) (h : q ≠ p) : upd f p x q = f q := if_neg h

def Mem.touched (m : Mem) (p g : Nat) : Mem := { m with blk := upd m.blk p (some g), dirty := upd m.dirty p true }

/-- The row of a block that holds n values. -/
structure HoldsAt (w : World) (b n : Nat) (t : TypeId) (f : Nat → Value) : Prop where
  row : ∃ cs, RowAt w b cs t ∧ cs.size = n ∧ ∀ j, j < n → cs[j]? = some (f j)
theorem HoldsAt.cell {w : World} {b n : Nat} {t : TypeId} {f : Nat → Value} (h : HoldsAt w b n t f) {j : Nat} (hj : j < n) : w.cell? ⟨b, j, none⟩ = some (f j) := by
  obtain ⟨cs, hr, _, hf⟩ := h.row
  rw [hr.cell j]; exact hf j hj
theorem HoldsAt.thaw {w : World} {b n : Nat} {t : TypeId} {f : Nat → Value} (h : HoldsAt w b n t f) (j : Nat) : w.frozen? ⟨b, j, none⟩ = false := by
  obtain ⟨cs, hr, _, _⟩ := h.row
  exact hr.thaw j
theorem HoldsAt.lt {w : World} {b n : Nat} {t : TypeId} {f : Nat → Value} (h : HoldsAt w b n t f) : b < w.heap.size := by
  obtain ⟨cs, hr, _, _⟩ := h.row
  exact hr.lt
theorem HoldsAt.al {w : World} {b n : Nat} {t : TypeId} {f : Nat → Value} (h : HoldsAt w b n t f) (o : Obj) : HoldsAt (w.alloc o) b n t f := by
  obtain ⟨cs, hr, hs, hf⟩ := h.row
  exact ⟨cs, hr.al o, hs, hf⟩
theorem HoldsAt.dr {w : World} {b n : Nat} {t : TypeId} {f : Nat → Value} (h : HoldsAt w b n t f) : HoldsAt w.drew b n t f := by
  obtain ⟨cs, hr, hs, hf⟩ := h.row
  exact ⟨cs, hr.dr, hs, hf⟩
theorem HoldsAt.far {w : World} {b n : Nat} {t : TypeId} {f : Nat → Value} (h : HoldsAt w b n t f) {g : Nat} (hg : b ≠ g) (j : Nat) (v : Value) : HoldsAt (w.setCell ⟨g, j, none⟩ v) b n t f := by
  obtain ⟨cs, hr, hs, hf⟩ := h.row
  exact ⟨cs, hr.far hg j v, hs, hf⟩
theorem HoldsAt.bl {w w' : World} {b n : Nat} {t : TypeId} {f : Nat → Value} (h : HoldsAt w b n t f) (hb : Below w.heap.size w w') : HoldsAt w' b n t f := by
  obtain ⟨cs, hr, hs, hf⟩ := h.row
  exact ⟨cs, hr.bl hb, hs, hf⟩
theorem HoldsAt.put {w : World} {b n : Nat} {t : TypeId} {f : Nat → Value} (h : HoldsAt w b n t f) {p : Nat} (hp : p < n) (v : Value) : HoldsAt (w.setCell ⟨b, p, none⟩ v) b n t (upd f p v) := by
  obtain ⟨cs, hr, hs, hf⟩ := h.row
  refine ⟨cs.setIfInBounds p v, hr.put p v, by simp [hs], fun j hj => ?_⟩
  by_cases hjp : j = p
  · subst hjp
    rw [upd_same, Array.getElem?_setIfInBounds_self_of_lt (by omega)]
  · rw [upd_other f v hjp, Array.getElem?_setIfInBounds_ne (fun e => hjp e.symm)]
    exact hf j hj
theorem HoldsAt.congr {w : World} {b n : Nat} {t : TypeId} {f g : Nat → Value} (h : HoldsAt w b n t f) (e : ∀ j, j < n → f j = g j) : HoldsAt w b n t g := by
  obtain ⟨cs, hr, hs, hf⟩ := h.row
  exact ⟨cs, hr, hs, fun j hj => by rw [← e j hj]; exact hf j hj⟩
theorem HoldsAt.made {w : World} {b n : Nat} {t : TypeId} {z : Value} (h : RowAt w b (madeCells #[z] n) t) : HoldsAt w b n t (fun _ => z) := by
  refine ⟨_, h, size_madeCells _ _, fun j hj => ?_⟩
  simp [madeCells, hj, Nat.mod_one]

/-- The memory m lies at b, its list of pages at P, of dirty ones at D; all its blocks from B on. -/
structure RamAt (w : World) (B b P D : Nat) (m : Mem) : Prop where
  head : ∃ nought once, RowAt w b (ramV P D m.n m.wr nought once) 74
  pages : HoldsAt w P m.n 28 (fun p => pageV (m.blk p))
  marks : HoldsAt w D m.n 4 (fun p => .bool (m.dirty p))
  bytes : ∀ p g, p < m.n → m.blk p = some g → HoldsAt w g 4096 5 (fun o => .int .u8 (m.dat p o : Nat))
  noughts : ∀ p, p < m.n → m.blk p = none → ∀ o, m.dat p o = 0
  low : B ≤ b ∧ B ≤ P ∧ B ≤ D ∧ ∀ p g, p < m.n → m.blk p = some g → B ≤ g
  apart : b ≠ P ∧ b ≠ D ∧ P ≠ D ∧ ∀ p g, p < m.n → m.blk p = some g → g ≠ b ∧ g ≠ P ∧ g ≠ D
  alone : ∀ p q g, p < m.n → q < m.n → p ≠ q → m.blk p = some g → m.blk q ≠ some g
  few : m.n ≤ 16384

def Mem.fresh (n : Nat) : Mem := ⟨n, fun _ => none, fun _ _ => 0, fun _ => false, 0⟩
theorem new_ram (n : Nat) (h0 : 1 ≤ n) (h1 : n ≤ 16384) (w : World) :
    Calls Tryd.prog 18 #[.int .i64 n] w fun e w' => e = .returned (.tuple #[.pointer (some ⟨w.heap.size + 1 + 1, 0, none⟩), .nilIface]) ∧ (∃ P D, RamAt w' w.heap.size (w.heap.size + 1 + 1) P D (Mem.fresh n)) ∧ Below w.heap.size w w' := by
  refine (new_ok n h0 h1 w).mono ?_
  rintro e w' ⟨rfl, ⟨P, D, hPD, hP, hD, hb⟩, hB⟩
  refine ⟨rfl, ⟨P, D, ?_⟩, hB⟩
  exact { head := ⟨_, _, hb⟩, pages := HoldsAt.made hP, marks := HoldsAt.made hD, bytes := fun p g _ h => by simp [Mem.fresh] at h, noughts := fun p _ _ o => rfl,
          low := ⟨by omega, by omega, by omega, fun p g _ h => by simp [Mem.fresh] at h⟩, apart := ⟨by omega, by omega, by omega, fun p g _ h => by simp [Mem.fresh] at h⟩,
          alone := fun p q g _ _ _ h => by simp [Mem.fresh] at h, few := h1 }
theorem RamAt.pagesAt {w : World} {B b P D : Nat} {m : Mem} (h : RamAt w B b P D m) : PagesAt w b P m.n := by
  obtain ⟨n, o, hr⟩ := h.head
  exact hr.cell 0
end Go.Proofs.YtijeceibkdcdaaaDoor
