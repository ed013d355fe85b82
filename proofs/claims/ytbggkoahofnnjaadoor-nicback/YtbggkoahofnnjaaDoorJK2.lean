/-
  sync.Once's Do of a memory, and mem's look at a page that was never made.
-/
import Derived.Test.YtbggkoahofnnjaaDoorJK1
import Derived.Deep.OwnRows
import Derived.Deep.RegionWith
import Derived.Deep.DrawnRows
import Derived.Lib.SliceRun
import Derived.Laws.LoneSync
import Derived.Laws.IdiomCopy
import Derived.Tactics2
import Derived.Defers
import Derived.Laws.Pointers
import Derived.RegionTactic
import Derived.RegionCalls
import Derived.ChangeAlike
namespace Go.Proofs.YtbggkoahofnnjaaDoor
open Go.RowKit
set_option linter.unusedVariables false
attribute [local go_sem ↓] Go.wp_at_zero Go.wp_at_succ

/-- The cells of a Ram. -/
def ramV (P D n dc : Nat) (wr : Int) (nought : Value) (once : Int) : Array Value := #[.slice (some ⟨P, 0, none⟩) n n, .slice (some ⟨D, 0, none⟩) n dc, .int .i64 wr, .int .u32 once, .int .i32 0, .int .u32 0, nought]

set_option maxHeartbeats 2000000 in
theorem new_ok (n : Nat) (h0 : 1 ≤ n) (h1 : n ≤ 16384) (w : World) :
    Calls Tryd.prog 10 #[.int .i64 n] w fun e w' => e = .returned (.tuple #[.pointer (some ⟨w.heap.size + 1 + 1, 0, none⟩), .nilIface]) ∧
      (∃ P D, ((P = w.heap.size ∧ D = w.heap.size + 1) ∨ (P = w.heap.size + 1 ∧ D = w.heap.size)) ∧ RowAt w' P (madeCells #[.slice none 0 0] n) 22 ∧ RowAt w' D (madeCells #[.bool false] n) 4 ∧
        RowAt w' (w.heap.size + 1 + 1) (ramV P D n n 0 (.slice none 0 0) 0) 93) ∧ Below w.heap.size w w' := by
  have m1 := run_make_row' (P := Tryd.prog) 50 22 (.slice none 0 0) 24 Tryd.underlying50 (by kernel_rfl) rfl .i64 .i64 n (by omega) (by omega)
  have m2 := run_make_row' (P := Tryd.prog) 27 4 (.bool false) 1 Tryd.underlying27 (by kernel_rfl) rfl .i64 .i64 n (by omega) (by omega)
  go_enter Tryd.func10, Tryd.ntmps10
  go_wp2
  go_region
  all_goals go_wp2
  all_goals
    go_ret2
    first
      | exact ⟨rfl, ⟨_, _, Or.inl ⟨rfl, rfl⟩, (((RowAt.new w _ _ _ rfl).al _).al _).dr, ((RowAt.new _ _ _ _ (by simp)).al _).dr, (RowAt.new _ _ _ _ (by simp)).dr⟩, (below_three w _ _ _).drew⟩
      | exact ⟨rfl, ⟨_, _, Or.inr ⟨rfl, rfl⟩, ((RowAt.new _ _ _ _ (by simp)).al _).dr, (((RowAt.new w _ _ _ rfl).al _).al _).dr, (RowAt.new _ _ _ _ (by simp)).dr⟩, (below_three w _ _ _).drew⟩
end Go.Proofs.YtbggkoahofnnjaaDoor
namespace Go.Proofs.YtbggkoahofnnjaaDoor
open Go.RowKit
set_option linter.unusedVariables false

/-- How many pages; where each lies, if it was made; its bytes; which are dirty; how many writes. -/
structure Mem where
  n : Nat
  blk : Nat → Option Nat
  dat : Nat → Nat → Nat
  dirty : Nat → Bool
  wr : Nat
  z : Option Nat
  cap : Nat → Nat
  dc : Nat

def pageV (c : Nat) : Option Nat → Value
  | none => .slice none 0 0
  | some g => .slice (some ⟨g, 0, none⟩) 4096 c

def upd {α : Type} (f : Nat → α) (p : Nat) (x : α) : Nat → α := fun q => if q = p then x else f q
theorem upd_same {α : Type} (f : Nat → α) (p : Nat) (x : α) : upd f p x p = x := if_pos rfl
theorem upd_other {α : Type} (f : Nat → α) {p q : Nat} (x : α) (h : q ≠ p) : upd f p x q = f q := if_neg h

def Mem.touched (m : Mem) (p g : Nat) : Mem := { m with blk := upd m.blk p (some g), dirty := upd m.dirty p true }

/-- The page of noughts, if it was made, and whether it was. -/
def Mem.nv (m : Mem) : Value := pageV 4096 m.z
def Mem.on (m : Mem) : Int := match m.z with | none => 0 | some _ => 1

/-- The row of a block that holds n values. -/
structure HoldsAt (w : World) (b n : Nat) (t : TypeId) (f : Nat → Value) : Prop where
  row : ∃ cs, RowAt w b cs t ∧ n ≤ cs.size ∧ ∀ j, j < n → cs[j]? = some (f j)
theorem HoldsAt.cell {w : World} {b n : Nat} {t : TypeId} {f : Nat → Value} (h : HoldsAt w b n t f) {j : Nat} (hj : j < n) : w.cell? ⟨b, j, none⟩ = some (f j) := by
  obtain ⟨cs, hr, _, hf⟩ := h.row
  rw [hr.cell j]; exact hf j hj
theorem HoldsAt.thaw {w : World} {b n : Nat} {t : TypeId} {f : Nat → Value} (h : HoldsAt w b n t f) (j : Nat) : w.frozen? ⟨b, j, none⟩ = false := by
  obtain ⟨cs, hr, _, _⟩ := h.row
  exact hr.thaw j
theorem HoldsAt.lt {w : World} {b n : Nat} {t : TypeId} {f : Nat → Value} (h : HoldsAt w b n t f) : b < w.heap.size := by
  obtain ⟨cs, hr, _, _⟩ := h.row
  exact hr.lt
theorem HoldsAt.al {w : World} {b n : Nat} {t : TypeId} {f : Nat → Value} (h : HoldsAt w b n t f) (o : Obj) : HoldsAt (w.alloc o) b n t f := by
  obtain ⟨cs, hr, hs, hf⟩ := h.row
  exact ⟨cs, hr.al o, hs, hf⟩
theorem HoldsAt.dr {w : World} {b n : Nat} {t : TypeId} {f : Nat → Value} (h : HoldsAt w b n t f) : HoldsAt w.drew b n t f := by
  obtain ⟨cs, hr, hs, hf⟩ := h.row
  exact ⟨cs, hr.dr, hs, hf⟩
theorem HoldsAt.far {w : World} {b n : Nat} {t : TypeId} {f : Nat → Value} (h : HoldsAt w b n t f) {g : Nat} (hg : b ≠ g) (j : Nat) (v : Value) : HoldsAt (w.setCell ⟨g, j, none⟩ v) b n t f := by
  obtain ⟨cs, hr, hs, hf⟩ := h.row
  exact ⟨cs, hr.far hg j v, hs, hf⟩
theorem HoldsAt.bl {w w' : World} {b n : Nat} {t : TypeId} {f : Nat → Value} (h : HoldsAt w b n t f) (hb : Below w.heap.size w w') : HoldsAt w' b n t f := by
  obtain ⟨cs, hr, hs, hf⟩ := h.row
  exact ⟨cs, hr.bl hb, hs, hf⟩
theorem HoldsAt.put {w : World} {b n : Nat} {t : TypeId} {f : Nat → Value} (h : HoldsAt w b n t f) {p : Nat} (hp : p < n) (v : Value) : HoldsAt (w.setCell ⟨b, p, none⟩ v) b n t (upd f p v) := by
  obtain ⟨cs, hr, hs, hf⟩ := h.row
  refine ⟨cs.setIfInBounds p v, hr.put p v, by simpa using hs, fun j hj => ?_⟩
  by_cases hjp : j = p
  · subst hjp
    rw [upd_same, Array.getElem?_setIfInBounds_self_of_lt (by omega)]
  · rw [upd_other f v hjp, Array.getElem?_setIfInBounds_ne (fun e => hjp e.symm)]
    exact hf j hj
theorem HoldsAt.congr {w : World} {b n : Nat} {t : TypeId} {f g : Nat → Value} (h : HoldsAt w b n t f) (e : ∀ j, j < n → f j = g j) : HoldsAt w b n t g := by
  obtain ⟨cs, hr, hs, hf⟩ := h.row
  exact ⟨cs, hr, hs, fun j hj => by rw [← e j hj]; exact hf j hj⟩
theorem HoldsAt.made {w : World} {b n : Nat} {t : TypeId} {z : Value} (h : RowAt w b (madeCells #[z] n) t) : HoldsAt w b n t (fun _ => z) := by
  refine ⟨_, h, Nat.le_of_eq (size_madeCells _ _).symm, fun j hj => ?_⟩
  simp [madeCells, hj, Nat.mod_one]

/-- The memory m lies at b, its list of pages at P, of dirty ones at D; all its blocks from B on. -/
structure RamAt (w : World) (B b P D : Nat) (m : Mem) : Prop where
  head : RowAt w b (ramV P D m.n m.dc m.wr m.nv m.on) 93
  zero : ∀ g, m.z = some g → HoldsAt w g 4096 5 (fun _ => .int .u8 0) ∧ B ≤ g ∧ g ≠ b ∧ g ≠ P ∧ g ≠ D ∧ ∀ p, p < m.n → m.blk p ≠ some g
  pages : HoldsAt w P m.n 22 (fun p => pageV (m.cap p) (m.blk p))
  marks : HoldsAt w D m.n 4 (fun p => .bool (m.dirty p))
  bytes : ∀ p g, p < m.n → m.blk p = some g → HoldsAt w g 4096 5 (fun o => .int .u8 (m.dat p o : Nat))
  noughts : ∀ p, p < m.n → m.blk p = none → ∀ o, m.dat p o = 0
  low : B ≤ b ∧ B ≤ P ∧ B ≤ D ∧ ∀ p g, p < m.n → m.blk p = some g → B ≤ g
  apart : b ≠ P ∧ b ≠ D ∧ P ≠ D ∧ ∀ p g, p < m.n → m.blk p = some g → g ≠ b ∧ g ≠ P ∧ g ≠ D
  alone : ∀ p q g, p < m.n → q < m.n → p ≠ q → m.blk p = some g → m.blk q ≠ some g
  few : m.n ≤ 16384
  caps : ∀ p, p < m.n → 4096 ≤ m.cap p ∧ m.cap p ≤ maxLen ∧ (m.blk p = none → m.cap p = 4096)
  room : m.n ≤ m.dc ∧ m.dc ≤ maxLen

def Mem.fresh (n : Nat) : Mem := ⟨n, fun _ => none, fun _ _ => 0, fun _ => false, 0, none, fun _ => 4096, n⟩
theorem new_ram (n : Nat) (h0 : 1 ≤ n) (h1 : n ≤ 16384) (w : World) :
    Calls Tryd.prog 10 #[.int .i64 n] w fun e w' => e = .returned (.tuple #[.pointer (some ⟨w.heap.size + 1 + 1, 0, none⟩), .nilIface]) ∧ (∃ P D, RamAt w' w.heap.size (w.heap.size + 1 + 1) P D (Mem.fresh n)) ∧ Below w.heap.size w w' := by
  refine (new_ok n h0 h1 w).mono ?_
  rintro e w' ⟨rfl, ⟨P, D, hPD, hP, hD, hb⟩, hB⟩
  refine ⟨rfl, ⟨P, D, ?_⟩, hB⟩
  exact { head := hb, zero := fun g h => (by cases h), pages := HoldsAt.made hP, marks := HoldsAt.made hD, bytes := fun p g _ h => by simp [Mem.fresh] at h, noughts := fun p _ _ o => rfl,
          low := ⟨by omega, by omega, by omega, fun p g _ h => by simp [Mem.fresh] at h⟩, apart := ⟨by omega, by omega, by omega, fun p g _ h => by simp [Mem.fresh] at h⟩,
          alone := fun p q g _ _ _ h => by simp [Mem.fresh] at h, few := h1, caps := fun p _ => ⟨Nat.le_refl _, (by show 4096 ≤ maxLen; unfold maxLen; omega), fun _ => rfl⟩, room := ⟨Nat.le_refl _, by show n ≤ maxLen; unfold maxLen; omega⟩ }
theorem RamAt.pagesAt {w : World} {B b P D : Nat} {m : Mem} (h : RamAt w B b P D m) : PagesAt w b P m.n := by
  exact h.head.cell 0
end Go.Proofs.YtbggkoahofnnjaaDoor
namespace Go.Proofs.YtbggkoahofnnjaaDoor
open Go.RowKit
set_option linter.unusedVariables false
attribute [local go_sem ↓] Go.wp_at_zero Go.wp_at_succ

set_option maxHeartbeats 1000000 in
theorem touch_there (b P D n dc p g c : Nat) (hp : p < n) (hn : n ≤ 16384) (w : World)
    (c0 : w.cell? ⟨b, 0, none⟩ = some (.slice (some ⟨P, 0, none⟩) n n)) (c1 : w.cell? ⟨b, 1, none⟩ = some (.slice (some ⟨D, 0, none⟩) n dc)) (cp : w.cell? ⟨P, p, none⟩ = some (.slice (some ⟨g, 0, none⟩) 4096 c))
    (v : Value) (cd : w.cell? ⟨D, p, none⟩ = some v) (fd : w.frozen? ⟨D, p, none⟩ = false) (hbD : b ≠ D) (hPD : P ≠ D) :
    Calls Tryd.prog 38 #[.pointer (some ⟨b, 0, none⟩), .int .i64 p] w fun e w' => e = .returned (.slice (some ⟨g, 0, none⟩) 4096 c) ∧ w' = w.setCell ⟨D, p, none⟩ (.bool true) := by
  have i0 : (0 : Int) ≤ (p : Int) := by omega
  have i9 : (p : Int) < (n : Int) := by omega
  have hq := fun w => Lib.run_eql_slice_nil (P := Tryd.prog) w 22 5 (some ⟨g, 0, none⟩) 4096 c 0 0 Tryd.underlying22
  have e0 : (w.setCell ⟨D, p, none⟩ (.bool true)).cell? ⟨b, 0, none⟩ = some (.slice (some ⟨P, 0, none⟩) n n) := by
    rw [World.cell?_setCell_other _ _ _ _ (fun e => hbD (by cases e; rfl))]; exact c0
  have e1 : (w.setCell ⟨D, p, none⟩ (.bool true)).cell? ⟨P, p, none⟩ = some (.slice (some ⟨g, 0, none⟩) 4096 c) := by
    rw [World.cell?_setCell_other _ _ _ _ (fun e => hPD (by cases e; rfl))]; exact cp
  go_enter Tryd.func38, Tryd.ntmps38
  go_wp2
  go_ret
  exact ⟨rfl, rfl⟩
/-- A page of noughts, made. -/
def newPage : Obj := .cells (madeCells #[.int .u8 0] 4096) 5

set_option maxHeartbeats 2000000 in
theorem touch_made (b P D n dc p : Nat) (hp : p < n) (hn : n ≤ 16384) (w : World)
    (c0 : w.cell? ⟨b, 0, none⟩ = some (.slice (some ⟨P, 0, none⟩) n n)) (c1 : w.cell? ⟨b, 1, none⟩ = some (.slice (some ⟨D, 0, none⟩) n dc)) (cp : w.cell? ⟨P, p, none⟩ = some (.slice none 0 0)) (fp : w.frozen? ⟨P, p, none⟩ = false)
    (v : Value) (cd : w.cell? ⟨D, p, none⟩ = some v) (fd : w.frozen? ⟨D, p, none⟩ = false) (hbP : b ≠ P) (hbD : b ≠ D) (hPD : P ≠ D) :
    Calls Tryd.prog 38 #[.pointer (some ⟨b, 0, none⟩), .int .i64 p] w fun e w' => e = .returned (.slice (some ⟨w.heap.size, 0, none⟩) 4096 4096) ∧
      w' = (((w.setCell ⟨P, p, none⟩ (.slice (some ⟨w.heap.size, 0, none⟩) 4096 4096)).setCell ⟨D, p, none⟩ (.bool true)).alloc newPage).drew := by
  have i0 : (0 : Int) ≤ (p : Int) := by omega
  have i9 : (p : Int) < (n : Int) := by omega
  have lb := lt_of_cell c0
  have lP := lt_of_cell cp
  have lD := lt_of_cell cd
  have hq := fun w => Lib.run_eql_slice_nil (P := Tryd.prog) w 22 5 none 0 0 0 0 Tryd.underlying22
  have hm : ∀ w : World, (Instr.makeSlice 22 (.int .i64 4096) (.int .i64 4096)).run Tryd.prog w = .ok (.slice (some ⟨w.heap.size, 0, none⟩) 4096 4096) (w.alloc newPage) :=
    run_make_row' (P := Tryd.prog) 22 5 (.int .u8 0) 1 Tryd.underlying22 (by kernel_rfl) rfl .i64 .i64 4096 (by omega) (by omega)
  generalize newPage = O at *
  have x0 : (w.setCell ⟨P, p, none⟩ (.slice (some ⟨w.heap.size, 0, none⟩) 4096 4096)).cell? ⟨b, 0, none⟩ = some (.slice (some ⟨P, 0, none⟩) n n) := by
    rw [World.cell?_setCell_other _ _ _ _ (fun e => hbP (by cases e; rfl))]; exact c0
  have x1 : (w.setCell ⟨P, p, none⟩ (.slice (some ⟨w.heap.size, 0, none⟩) 4096 4096)).cell? ⟨b, 1, none⟩ = some (.slice (some ⟨D, 0, none⟩) n dc) := by
    rw [World.cell?_setCell_other _ _ _ _ (fun e => hbP (by cases e; rfl))]; exact c1
  have xd : (w.setCell ⟨P, p, none⟩ (.slice (some ⟨w.heap.size, 0, none⟩) 4096 4096)).cell? ⟨D, p, none⟩ = some v := by
    rw [World.cell?_setCell_other _ _ _ _ (fun e => hPD (by cases e; rfl))]; exact cd
  have xf : (w.setCell ⟨P, p, none⟩ (.slice (some ⟨w.heap.size, 0, none⟩) 4096 4096)).frozen? ⟨D, p, none⟩ = false := by
    rw [World.frozen?_setCell]; exact fd
  have y0 : ((w.setCell ⟨P, p, none⟩ (.slice (some ⟨w.heap.size, 0, none⟩) 4096 4096)).setCell ⟨D, p, none⟩ (.bool true)).cell? ⟨b, 0, none⟩ = some (.slice (some ⟨P, 0, none⟩) n n) := by
    rw [World.cell?_setCell_other _ _ _ _ (fun e => hbD (by cases e; rfl))]; exact x0
  go_enter Tryd.func38, Tryd.ntmps38
  go_wp2
  go_region
  go_wp2
  go_ret
  exact ⟨rfl, rfl⟩

theorem RamAt.mark {w : World} {B b P D : Nat} {m : Mem} (h : RamAt w B b P D m) {p : Nat} (hp : p < m.n) : RamAt (w.setCell ⟨D, p, none⟩ (.bool true)) B b P D { m with dirty := upd m.dirty p true } := by
  have hr := h.head
  obtain ⟨a1, a2, a3, a4⟩ := h.apart
  exact { head := hr.far a2 p _, zero := fun g hg => (by (obtain ⟨z1, z2, z3, z4, z5, z6⟩ := h.zero g hg; exact ⟨z1.far z5 p _, z2, z3, z4, z5, z6⟩)), pages := h.pages.far a3 p _,
          marks := (h.marks.put hp (.bool true)).congr (fun j _ => by
            by_cases hj : j = p
            · subst hj; rw [upd_same]; show _ = Value.bool (upd m.dirty j true j); rw [upd_same]
            · rw [upd_other _ _ hj]; show _ = Value.bool (upd m.dirty p true j); rw [upd_other _ _ hj]),
          bytes := fun q g hq hg => (h.bytes q g hq hg).far (a4 q g hq hg).2.2 p _, noughts := h.noughts, low := h.low, apart := h.apart, alone := h.alone, few := h.few, caps := h.caps, room := h.room }

theorem RamAt.page {w : World} {B b P D : Nat} {m : Mem} (h : RamAt w B b P D m) (hB : B ≤ w.heap.size) {p : Nat} (hp : p < m.n) (hn : m.blk p = none) :
    RamAt ((w.setCell ⟨P, p, none⟩ (.slice (some ⟨w.heap.size, 0, none⟩) 4096 4096)).alloc newPage) B b P D { m with blk := upd m.blk p (some w.heap.size) } := by
  have hr := h.head
  obtain ⟨a1, a2, a3, a4⟩ := h.apart
  obtain ⟨l1, l2, l3, l4⟩ := h.low
  have hsz : (w.setCell ⟨P, p, none⟩ (.slice (some ⟨w.heap.size, 0, none⟩) 4096 4096)).heap.size = w.heap.size := by simp [World.setCell]
  have old : ∀ q g, q < m.n → m.blk q = some g → g < w.heap.size := fun q g hq hg => (h.bytes q g hq hg).lt
  have blk' : ∀ q g, upd m.blk p (some w.heap.size) q = some g → (q = p ∧ g = w.heap.size) ∨ (q ≠ p ∧ m.blk q = some g) := fun q g hg => by
    by_cases hq : q = p
    · subst hq; rw [upd_same] at hg; exact .inl ⟨rfl, (Option.some.inj hg).symm⟩
    · rw [upd_other _ _ hq] at hg; exact .inr ⟨hq, hg⟩
  have lb := hr.lt
  have lP := h.pages.lt
  have lD := h.marks.lt
  exact { head := (hr.far a1 p _).al _,
          zero := fun g hg => (by
            obtain ⟨z1, z2, z3, z4, z5, z6⟩ := h.zero g hg
            refine ⟨(z1.far z4 p _).al _, z2, z3, z4, z5, fun q hq e => ?_⟩
            rcases blk' q g e with ⟨_, e1⟩ | ⟨_, e1⟩
            · have := z1.lt; omega
            · exact z6 q hq e1),
          pages := ((h.pages.put hp (.slice (some ⟨w.heap.size, 0, none⟩) 4096 4096)).congr (fun j _ => by
            by_cases hj : j = p
            · subst hj; rw [upd_same]; show _ = pageV (m.cap j) (upd m.blk j (some w.heap.size) j); rw [upd_same, (h.caps j hp).2.2 hn]; rfl
            · rw [upd_other _ _ hj]; show _ = pageV (m.cap j) (upd m.blk p (some w.heap.size) j); rw [upd_other _ _ hj])).al _,
          marks := (h.marks.far (fun e => a3 e.symm) p _).al _,
          bytes := fun q g hq hg => by
            rcases blk' q g hg with ⟨rfl, rfl⟩ | ⟨hqp, hg'⟩
            · have hz : ∀ x, m.dat q x = 0 := h.noughts q hp hn
              refine (HoldsAt.made (RowAt.new _ _ _ _ hsz)).congr (fun j _ => ?_)
              show _ = Value.int .u8 ((m.dat q j : Nat) : Int)
              rw [hz j]; rfl
            · exact ((h.bytes q g hq hg').far (a4 q g hq hg').2.1 p _).al _,
          noughts := fun q hq hg => by
            by_cases hqp : q = p
            · subst hqp; exact h.noughts q hq hn
            · exact h.noughts q hq (by
                have : upd m.blk p (some w.heap.size) q = none := hg
                rwa [upd_other _ _ hqp] at this),
          low := ⟨l1, l2, l3, fun q g hq hg => by
            rcases blk' q g hg with ⟨rfl, rfl⟩ | ⟨_, hg'⟩
            · exact hB
            · exact l4 q g hq hg'⟩,
          apart := ⟨a1, a2, a3, fun q g hq hg => by
            rcases blk' q g hg with ⟨rfl, rfl⟩ | ⟨_, hg'⟩
            · exact ⟨by omega, by omega, by omega⟩
            · exact a4 q g hq hg'⟩,
          alone := fun q r g hq hr' hne hg hg2 => by
            rcases blk' q g hg with ⟨rfl, rfl⟩ | ⟨hqp, hg'⟩
            · rcases blk' r _ hg2 with ⟨rfl, _⟩ | ⟨_, hr2⟩
              · exact hne rfl
              · have := old r _ hr' hr2; omega
            · rcases blk' r g hg2 with ⟨rfl, rfl⟩ | ⟨_, hr2⟩
              · have := old q _ hq hg'; omega
              · exact h.alone q r g hq hr' hne hg' hr2,
          few := h.few, caps := fun q hq => ⟨(h.caps q hq).1, (h.caps q hq).2.1, fun e => (h.caps q hq).2.2 (by
            have e' : upd m.blk p (some w.heap.size) q = none := e
            by_cases hqp : q = p
            · subst hqp; exact hn
            · rwa [upd_other _ _ hqp] at e')⟩, room := h.room }
end Go.Proofs.YtbggkoahofnnjaaDoor
namespace Go.Proofs.YtbggkoahofnnjaaDoor
open Go.RowKit
set_option linter.unusedVariables false

/-- What a step leaves as it was: all blocks but those of the memory; more may be there. -/
structure Kept (B : Nat) (w w' : World) (own : Nat → Prop) : Prop where
  below : Below B w w'
  size : w.heap.size ≤ w'.heap.size
  other : ∀ x, x < w.heap.size → ¬ own x → w'.heap[x]? = w.heap[x]?
theorem Kept.refl (B : Nat) (w : World) (own : Nat → Prop) : Kept B w w own := ⟨Below.refl _ _, Nat.le_refl _, fun _ _ _ => rfl⟩
theorem Kept.trans {B : Nat} {a b c : World} {own : Nat → Prop} (h : Kept B a b own) (k : Kept B b c own) : Kept B a c own :=
  ⟨h.below.trans k.below, Nat.le_trans h.size k.size, fun x hx hn => (k.other x (Nat.lt_of_lt_of_le hx h.size) hn).trans (h.other x hx hn)⟩
theorem Kept.set {B : Nat} {w : World} {own : Nat → Prop} {g j : Nat} (hg : own g) (hB : B ≤ g) (v : Value) : Kept B w (w.setCell ⟨g, j, none⟩ v) own :=
  ⟨(Below.refl _ _).setCell (p := ⟨g, j, none⟩) hB v, by simp [World.setCell], fun x _ hn => Below.heap_setCell _ _ _ _ (fun e => hn (by subst e; exact hg))⟩
theorem Kept.al {B : Nat} {w : World} {own : Nat → Prop} (hB : B ≤ w.heap.size) (o : Obj) : Kept B w (w.alloc o) own :=
  ⟨(Below.refl _ _).alloc hB o, by simp, fun x hx _ => Below.heap_alloc _ _ _ hx⟩
theorem Kept.dr {B : Nat} {w w' : World} {own : Nat → Prop} (h : Kept B w w' own) : Kept B w w'.drew own := ⟨h.below.drew, h.size, h.other⟩
theorem Kept.mono {B : Nat} {w w' : World} {own own' : Nat → Prop} (h : Kept B w w' own) (i : ∀ x, own x → own' x) : Kept B w w' own' := ⟨h.below, h.size, fun x hx hn => h.other x hx (fun k => hn (i x k))⟩
theorem Kept.holds {B : Nat} {w w' : World} {own : Nat → Prop} (h : Kept B w w' own) {b n : Nat} {t : TypeId} {f : Nat → Value} (hh : HoldsAt w b n t f) (hn : ¬ own b) : HoldsAt w' b n t f := by
  obtain ⟨cs, hr, hs, hf⟩ := hh.row
  exact ⟨cs, (h.other b hr.lt hn).trans hr, hs, hf⟩

/-- The blocks of a memory. -/
def Mem.owns (m : Mem) (b P D x : Nat) : Prop := x = b ∨ x = P ∨ x = D ∨ ∃ p, p < m.n ∧ m.blk p = some x

theorem touch_ram {w : World} {B b P D : Nat} {m : Mem} (h : RamAt w B b P D m) (hB : B ≤ w.heap.size) {p : Nat} (hp : p < m.n) :
    Calls Tryd.prog 38 #[.pointer (some ⟨b, 0, none⟩), .int .i64 p] w fun e w' => ∃ g, e = .returned (.slice (some ⟨g, 0, none⟩) 4096 (m.cap p)) ∧ RamAt w' B b P D (m.touched p g) ∧ Kept B w w' (m.owns b P D) ∧ (m.blk p = some g ∨ (m.blk p = none ∧ w.heap.size ≤ g)) := by
  have hr := h.head
  have c0 : w.cell? ⟨b, 0, none⟩ = some (.slice (some ⟨P, 0, none⟩) m.n m.n) := hr.cell 0
  have c1 : w.cell? ⟨b, 1, none⟩ = some (.slice (some ⟨D, 0, none⟩) m.n m.dc) := hr.cell 1
  have cp := h.pages.cell hp
  have cd := h.marks.cell hp
  have fd := h.marks.thaw p
  have fp := h.pages.thaw p
  obtain ⟨a1, a2, a3, a4⟩ := h.apart
  obtain ⟨l1, l2, l3, l4⟩ := h.low
  cases hb : m.blk p with
  | some g =>
    rw [hb] at cp
    refine (touch_there b P D m.n m.dc p g (m.cap p) hp h.few w c0 c1 cp _ cd fd a2 a3).mono ?_
    rintro e w' ⟨rfl, rfl⟩
    refine ⟨g, rfl, ?_, Kept.set (Or.inr (Or.inr (Or.inl rfl))) l3 _, Or.inl rfl⟩
    have hm := h.mark hp
    have e : { m with dirty := upd m.dirty p true } = m.touched p g := by
      unfold Mem.touched
      have : upd m.blk p (some g) = m.blk := by
        funext q
        by_cases hq : q = p
        · subst hq; rw [upd_same, hb]
        · rw [upd_other _ _ hq]
      rw [this]
    rw [← e]; exact hm
  | none =>
    rw [hb] at cp
    refine (touch_made b P D m.n m.dc p hp h.few w c0 c1 cp fp _ cd fd a1 a2 a3).mono ?_
    rintro e w' ⟨rfl, rfl⟩
    refine ⟨w.heap.size, by rw [(h.caps p hp).2.2 hb], ?_, ?_, Or.inr ⟨rfl, Nat.le_refl _⟩⟩
    · have hsw : ((w.setCell ⟨P, p, none⟩ (.slice (some ⟨w.heap.size, 0, none⟩) 4096 4096)).alloc newPage).setCell ⟨D, p, none⟩ (.bool true) = ((w.setCell ⟨P, p, none⟩ (.slice (some ⟨w.heap.size, 0, none⟩) 4096 4096)).setCell ⟨D, p, none⟩ (.bool true)).alloc newPage :=
        World.setCell_alloc_past _ _ _ _ (by have := h.marks.lt; simpa [World.setCell] using this)
      have hm := (h.page hB hp hb).mark hp
      rw [hsw] at hm
      have hr' := hm.head
      exact { head := hr'.dr, zero := fun g hg => (by (obtain ⟨z1, z2⟩ := hm.zero g hg; exact ⟨z1.dr, z2⟩)), pages := hm.pages.dr, marks := hm.marks.dr, bytes := fun q g hq hg => (hm.bytes q g hq hg).dr, noughts := hm.noughts, low := hm.low, apart := hm.apart, alone := hm.alone, few := hm.few, caps := hm.caps, room := hm.room }
    · have k1 : Kept B w (w.setCell ⟨P, p, none⟩ (.slice (some ⟨w.heap.size, 0, none⟩) 4096 4096)) (m.owns b P D) := Kept.set (Or.inr (Or.inl rfl)) l2 _
      have k2 := k1.trans (Kept.set (w := w.setCell ⟨P, p, none⟩ (.slice (some ⟨w.heap.size, 0, none⟩) 4096 4096)) (own := m.owns b P D) (g := D) (j := p) (Or.inr (Or.inr (Or.inl rfl))) l3 (.bool true))
      exact (k2.trans (Kept.al (Nat.le_trans hB k2.size) newPage)).dr
end Go.Proofs.YtbggkoahofnnjaaDoor
namespace Go.Proofs.YtbggkoahofnnjaaDoor
open Go.RowKit
set_option linter.unusedVariables false

set_option maxHeartbeats 400000 in
theorem add_any (b o : Nat) (x : Int) (w : World) (c : w.cell? ⟨b, o, none⟩ = some (.int .i64 x)) (f : w.frozen? ⟨b, o, none⟩ = false) (h0 : 0 ≤ x) (h1 : x ≤ 1000000000) :
    Calls Tryd.prog 39 #[.pointer (some ⟨b, o, none⟩), .int .i64 1] w fun e w' => e = .returned (.int .i64 (x + 1)) ∧ w' = w.setCell ⟨b, o, none⟩ (.int .i64 (x + 1)) := by
  have hw : IntKind.i64.wrap (x + 1) = x + 1 := by rw [IntKind.wrap_i64]; omega
  have hadd := run_call_add (P := Tryd.prog) Tryd.func54 (by kernel_rfl) (by kernel_rfl) (by kernel_rfl) .i64 (by kernel_rfl) (y := 1) (s := x + 1) c f (by simp [go_sem, hw])
  clear hw
  go_enter Tryd.func39, Tryd.ntmps39
  go_wp2
  go_ret
  exact ⟨rfl, rfl⟩
end Go.Proofs.YtbggkoahofnnjaaDoor
namespace Go.Proofs.YtbggkoahofnnjaaDoor
open Go.RowKit
set_option linter.unusedVariables false

theorem heap_setCells (g : Nat) : ∀ (vs : List Value) (o : Nat) (w : World) (x : Nat), x ≠ g → (w.setCells g o vs).heap[x]? = w.heap[x]?
  | [], _, _, _, _ => rfl
  | v :: r, o, w, x, h => by
    rw [World.setCells, heap_setCells g r _ _ x h, Below.heap_setCell _ _ _ _ (by simpa using h)]
theorem size_setCells (g : Nat) : ∀ (vs : List Value) (o : Nat) (w : World), (w.setCells g o vs).heap.size = w.heap.size
  | [], _, _ => rfl
  | v :: r, o, w => by rw [World.setCells, size_setCells g r]; simp [World.setCell]
theorem HoldsAt.puts {b n : Nat} {t : TypeId} : ∀ (vs : List Value) (o : Nat) {w : World} {f : Nat → Value}, HoldsAt w b n t f → o + vs.length ≤ n →
    HoldsAt (w.setCells b o vs) b n t (fun j => if o ≤ j then (vs[j - o]?).getD (f j) else f j)
  | [], o, w, f, h, _ => by
    rw [World.setCells]
    exact h.congr (fun j _ => by simp)
  | v :: r, o, w, f, h, hl => by
    rw [World.setCells]
    have hl' : o + 1 + r.length ≤ n := by simp at hl; omega
    refine (HoldsAt.puts r (o + 1) (h.put (by simp at hl; omega) v) hl').congr (fun j _ => ?_)
    by_cases h1 : o + 1 ≤ j
    · rw [if_pos h1, if_pos (by omega), upd_other _ _ (by omega)]
      obtain ⟨k, hk⟩ : ∃ k, j - o = k + 1 := ⟨j - o - 1, by omega⟩
      rw [hk, show j - (o + 1) = k by omega, List.getElem?_cons_succ]
    · rw [if_neg h1]
      by_cases h2 : j = o
      · subst h2
        rw [upd_same, if_pos (Nat.le_refl _), Nat.sub_self]; rfl
      · rw [upd_other _ _ h2, if_neg (by omega)]
theorem HoldsAt.puts_far {w : World} {b n : Nat} {t : TypeId} {f : Nat → Value} (h : HoldsAt w b n t f) {g : Nat} (hg : b ≠ g) (o : Nat) (vs : List Value) : HoldsAt (w.setCells g o vs) b n t f := by
  obtain ⟨cs, hr, hs, hf⟩ := h.row
  exact ⟨cs, (heap_setCells g vs o w b hg).trans hr, hs, hf⟩
theorem Kept.sets {B : Nat} {w : World} {own : Nat → Prop} {g : Nat} (hg : own g) (hB : B ≤ g) (o : Nat) (vs : List Value) : Kept B w (w.setCells g o vs) own := by
  induction vs generalizing o w with
  | nil => exact Kept.refl _ _ _
  | cons v r ih => rw [World.setCells]; exact (Kept.set hg hB v).trans (ih (o + 1))

/-- A memory with bytes put into a page, from a place on. -/
def Mem.put (m : Mem) (p o : Nat) (l : List Nat) : Mem := { m with dat := fun q x => if q = p ∧ o ≤ x then (l[x - o]?).getD (m.dat q x) else m.dat q x }
def byteV (l : List Nat) : List Value := l.map fun x => .int .u8 (x : Nat)
theorem RamAt.puts {w : World} {B b P D : Nat} {m : Mem} (h : RamAt w B b P D m) {p g o : Nat} (hp : p < m.n) (hg : m.blk p = some g) (l : List Nat) (hl : o + l.length ≤ 4096) :
    RamAt (w.setCells g o (byteV l)) B b P D (m.put p o l) := by
  have hr := h.head
  obtain ⟨a1, a2, a3, a4⟩ := h.apart
  obtain ⟨b1, b2, b3⟩ := a4 p g hp hg
  refine { head := (heap_setCells g _ o w b (fun e => b1 e.symm)).trans hr, zero := fun y hy => (by (obtain ⟨z1, z2, z3, z4, z5, z6⟩ := h.zero y hy; exact ⟨z1.puts_far (fun e => z6 p hp (e ▸ hg)) _ _, z2, z3, z4, z5, z6⟩)), pages := h.pages.puts_far (fun e => b2 e.symm) _ _, marks := h.marks.puts_far (fun e => b3 e.symm) _ _,
           bytes := fun q g' hq hg' => ?_, noughts := fun q hq hn x => ?_, low := h.low, apart := h.apart, alone := h.alone, few := h.few, caps := h.caps, room := h.room }
  · by_cases hqp : q = p
    · subst hqp
      obtain rfl : g = g' := Option.some.inj (hg.symm.trans hg')
      refine ((h.bytes q g hq hg').puts (byteV l) o (by simpa [byteV] using hl)).congr (fun j _ => ?_)
      show _ = Value.int .u8 ((((m.put q o l).dat q j : Nat)) : Int)
      by_cases hj : o ≤ j
      · have e : (m.put q o l).dat q j = (l[j - o]?).getD (m.dat q j) := if_pos ⟨rfl, hj⟩
        rw [if_pos hj, e, byteV, List.getElem?_map]
        cases l[j - o]? <;> rfl
      · have e : (m.put q o l).dat q j = m.dat q j := if_neg (fun k => hj k.2)
        rw [if_neg hj, e]
    · have hne : g' ≠ g := fun e => h.alone q p g' hq hp hqp hg' (e ▸ hg)
      refine ((h.bytes q g' hq hg').puts_far hne _ _).congr (fun j _ => ?_)
      show _ = Value.int .u8 ((((m.put p o l).dat q j : Nat)) : Int)
      have e : (m.put p o l).dat q j = m.dat q j := if_neg (fun k => hqp k.1)
      rw [e]
  · have hqp : q ≠ p := fun e => by
      subst e
      have : m.blk q = none := hn
      rw [hg] at this; cases this
    have e : (m.put p o l).dat q x = m.dat q x := if_neg (fun k => hqp k.1)
    rw [e]; exact h.noughts q hq hn x
end Go.Proofs.YtbggkoahofnnjaaDoor
namespace Go.Proofs.YtbggkoahofnnjaaDoor
open Go.RowKit
set_option linter.unusedVariables false
attribute [local go_sem ↓] Go.wp_at_zero Go.wp_at_succ

set_option maxHeartbeats 1000000 in
theorem look_there (b P n p g c : Nat) (hp : p < n) (hn : n ≤ 16384) (w : World)
    (c0 : w.cell? ⟨b, 0, none⟩ = some (.slice (some ⟨P, 0, none⟩) n n)) (cp : w.cell? ⟨P, p, none⟩ = some (.slice (some ⟨g, 0, none⟩) 4096 c)) :
    Calls Tryd.prog 67 #[.pointer (some ⟨b, 0, none⟩), .int .i64 p] w fun e w' => e = .returned (.slice (some ⟨g, 0, none⟩) 4096 c) ∧ Below w.heap.size w w' := by
  have i0 : (0 : Int) ≤ (p : Int) := by omega
  have i9 : (p : Int) < (n : Int) := by omega
  have lb := lt_of_cell c0
  have lP := lt_of_cell cp
  have hq := fun w => Lib.run_eql_slice_nil (P := Tryd.prog) w 22 5 (some ⟨g, 0, none⟩) 4096 c 0 0 Tryd.underlying22
  go_enter Tryd.func67, Tryd.ntmps67
  go_wp2
  go_ret
  exact ⟨rfl, (Below.refl _ w).alloc (Nat.le_refl _) _⟩

theorem RamAt.bl {w w' : World} {B b P D : Nat} {m : Mem} (h : RamAt w B b P D m) (hb : Below w.heap.size w w') : RamAt w' B b P D m := by
  have hr := h.head
  exact { head := hr.bl hb, zero := fun g hg => (by (obtain ⟨z1, z2⟩ := h.zero g hg; exact ⟨z1.bl hb, z2⟩)), pages := h.pages.bl hb, marks := h.marks.bl hb, bytes := fun q g hq hg => (h.bytes q g hq hg).bl hb, noughts := h.noughts, low := h.low, apart := h.apart, alone := h.alone, few := h.few, caps := h.caps, room := h.room }
theorem look_ram {w : World} {B b P D : Nat} {m : Mem} (h : RamAt w B b P D m) {p g : Nat} (hp : p < m.n) (hg : m.blk p = some g) :
    Calls Tryd.prog 67 #[.pointer (some ⟨b, 0, none⟩), .int .i64 p] w fun e w' => e = .returned (.slice (some ⟨g, 0, none⟩) 4096 (m.cap p)) ∧ Below w.heap.size w w' := by
  have hr := h.head
  have cp := h.pages.cell hp
  rw [hg] at cp
  exact look_there b P m.n p g (m.cap p) hp h.few w (hr.cell 0) cp
end Go.Proofs.YtbggkoahofnnjaaDoor
namespace Go.Proofs.YtbggkoahofnnjaaDoor
open Go.RowKit
set_option linter.unusedVariables false

/-- A pointer as one of no type: the same place, where something stands there. -/
theorem ptr_seen {P : Program} {src dst t : TypeId} (hs : P.underlying src = some (.pointer t)) (hd : P.underlying dst = some .unsafePointer) (hn : (P.info? t).map (fun i => decide (i.size = 0)) = some false) {a : Addr} {v : Value} {w : World} (hc : w.cell? a = some v) :
    (convert src dst (.pointer (some a))).run P w = .ok (.pointer (some a)) w := by
  obtain ⟨e, n, h1, h2, _⟩ := World.shape?_of_cell? hc
  obtain ⟨i, hi, hz⟩ := Option.map_eq_some_iff.1 hn
  have h3 : i.size ≠ 0 := by simpa using hz
  have h4 : ¬ n ≤ a.off := by omega
  simp [convert, Conv.unsafePointer, Conv.seenAt, viewAt, cellsIn, sizeOf, typeInfo, run_underlying hs, run_underlying hd, hi, h3, h1, h4, Result.andThen]
theorem o_disable (w : World) : (callFunc 85 #[]).run Tryd.prog w = .ok (.value (.tuple #[])) w := run_call_mark0 Tryd.func85 (by kernel_rfl) (by kernel_rfl) (by kernel_rfl) .disable (by kernel_rfl) w
theorem o_enable (w : World) : (callFunc 87 #[]).run Tryd.prog w = .ok (.value (.tuple #[])) w := run_call_mark0 Tryd.func87 (by kernel_rfl) (by kernel_rfl) (by kernel_rfl) .enable (by kernel_rfl) w
theorem o_acquire (a : Addr) (w : World) : (callFunc 88 #[.pointer (some a)]).run Tryd.prog w = .ok (.value (.tuple #[])) w := run_call_marked Tryd.func88 (by kernel_rfl) (by kernel_rfl) (by kernel_rfl) .acquire (by kernel_rfl) a w
theorem o_merge (a : Addr) (w : World) : (callFunc 90 #[.pointer (some a)]).run Tryd.prog w = .ok (.value (.tuple #[])) w := run_call_marked Tryd.func90 (by kernel_rfl) (by kernel_rfl) (by kernel_rfl) .releaseMerge (by kernel_rfl) a w

theorem store_deferred (a : Addr) (x : Value) (u : FrameMode) (w : World) (hc : w.cell? a = some x) (hz : w.frozen? a = false) :
    CallsD Tryd.prog 80 #[.pointer (some a), .bool true] u w fun e u' w' => u' = u ∧ (e = .returned (.tuple #[]) ∧ w' = w.drew.setCell a (.int .u32 1)) := by
  have hc' : w.drew.cell? a = some x := by go_simp
  have hz' : w.drew.frozen? a = false := by go_simp
  have hst := run_call_store (P := Tryd.prog) Tryd.func83 (by kernel_rfl) (by kernel_rfl) (by kernel_rfl) (by kernel_rfl) (k := .u32) (y := 1) hc' hz'
  go_enter_d Tryd.func80, Tryd.ntmps80
  go_wp2
  go_region_calls
  all_goals (go_end0; exact ⟨rfl, rfl⟩)
set_option maxRecDepth 100000 in
theorem unlock_deferred (a : Addr) (u : FrameMode) (w : World) (hc : w.cell? a = some (.int .i32 1)) (hz : w.frozen? a = false) :
    CallsD Tryd.prog 79 #[.pointer (some a)] u w fun e u' w' => u' = u ∧ (e = .returned (.tuple #[]) ∧ w' = w.setCell a (.int .i32 0)) := by
  have hd := o_disable
  have he := o_enable
  have hr := o_merge
  have hadd := run_call_add (P := Tryd.prog) Tryd.func91 (by kernel_rfl) (by kernel_rfl) (by kernel_rfl) .i32 (by kernel_rfl) (y := -1) (s := 0) hc hz (by simp [go_sem]; rfl)
  have hcv := ptr_seen (P := Tryd.prog) (src := 169) (dst := 173) Tryd.underlying169 Tryd.underlying173 (by kernel_rfl) hc
  go_enter_d Tryd.func79, Tryd.ntmps79
  go_wp2
  go_end0
  go_wp2
  go_end0
  exact ⟨rfl, rfl⟩
set_option maxRecDepth 100000 in
theorem lock_free (a : Addr) (w : World) (hc : w.cell? a = some (.int .i32 0)) (hz : w.frozen? a = false) :
    Calls Tryd.prog 78 #[.pointer (some a)] w fun e w' => e = .returned (.tuple #[]) ∧ w' = w.setCell a (.int .i32 1) := by
  have hd := o_disable
  have he := o_enable
  have ha := o_acquire
  have hcas := run_call_cas_hit (P := Tryd.prog) Tryd.func86 (by kernel_rfl) (by kernel_rfl) (by kernel_rfl) .i32 (by kernel_rfl) (y := 1) hc hz
  have hc' : (w.setCell a (.int .i32 1)).cell? a = some (.int .i32 1) := World.cell?_setCell_same w a _ hc
  have hcv := ptr_seen (P := Tryd.prog) (src := 169) (dst := 173) Tryd.underlying169 Tryd.underlying173 (by kernel_rfl) hc'
  go_enter Tryd.func78, Tryd.ntmps78
  go_wp2
  first | go_end0 | (simp only [Exit.inBlock, Exit.then]; refine bodyPost_ret (results_none rfl _ _ _) rfl ?_) | refine bodyPost_ret (results_none rfl _ _ _) rfl ?_
  go_wp2
  go_end0
  exact ⟨rfl, rfl⟩
end Go.Proofs.YtbggkoahofnnjaaDoor
namespace Go.Proofs.YtbggkoahofnnjaaDoor
open Go.RowKit
set_option linter.unusedVariables false
attribute [local go_sem ↓] Go.wp_at_zero Go.wp_at_succ

set_option maxRecDepth 100000 in
theorem bool_load (a : Addr) (n : Nat) (w : World) (hc : w.cell? a = some (.int .u32 (n : Nat))) :
    Calls Tryd.prog 74 #[.pointer (some a)] w fun e w' => e = .returned (.bool (!decide (n = 0))) ∧ w' = w := by
  have hl := run_call_load (P := Tryd.prog) Tryd.func77 (by kernel_rfl) (by kernel_rfl) (by kernel_rfl) .u32 (by kernel_rfl) (w := w) (a := a) (x := (n : Nat)) hc
  by_cases h : n = 0
  · subst h
    go_enter Tryd.func74, Tryd.ntmps74
    go_wp2
    go_ret
    exact ⟨rfl, rfl⟩
  · have t : (((n : Nat) : Int) != 0) = true := by simp; omega
    rw [decide_eq_false h]
    go_enter Tryd.func74, Tryd.ntmps74
    go_wp2
    go_ret
    exact ⟨rfl, rfl⟩
/-- What stays when the page of noughts is made. -/
structure Made (b : Nat) (w w' : World) : Prop where
  size : w'.heap.size = w.heap.size + 1
  row : ∀ g, g ≠ b → g < w.heap.size → w'.heap[g]? = w.heap[g]?
  bel : ∀ B w0, B ≤ b → Below B w0 w → Below B w0 w'
  page : HoldsAt w' w.heap.size 4096 5 (fun _ => .int .u8 0)
set_option maxRecDepth 100000 in
set_option maxHeartbeats 2000000 in
theorem slow_first (b P D n dc : Nat) (wr : Int) (nv : Value) (pl : Addr) (hpb : ¬ b = pl.block) (w : World) (hr : RowAt w b (ramV P D n dc wr nv 0) 93) (hp : w.cell? pl = some (.pointer (some ⟨b, 0, none⟩))) :
    Calls Tryd.prog 75 #[.pointer (some ⟨b, 3, none⟩), .func (.func 72) #[] #[.pointer (some pl)]] w fun e w' => e = .returned (.tuple #[]) ∧
      RowAt w' b (ramV P D n dc wr (.slice (some ⟨w.heap.size, 0, none⟩) 4096 4096) 1) 93 ∧ Made b w w' := by
  have h3 : w.cell? ⟨b, 3, none⟩ = some (.int .u32 0) := hr.cell 3
  have h4 : w.cell? ⟨b, 4, none⟩ = some (.int .i32 0) := hr.cell 4
  have h6 : w.cell? ⟨b, 6, none⟩ = some nv := hr.cell 6
  have lb := lt_of_cell h3
  have f3 := hr.thaw 3
  have f4 := hr.thaw 4
  have f6 := hr.thaw 6
  have hp1 : (w.setCell ⟨b, 4, none⟩ (.int .i32 1)).cell? pl = some (.pointer (some ⟨b, 0, none⟩)) := (World.cell?_setCell_other _ ⟨b, 4, none⟩ pl _ (fun h => hpb (by rw [← h]))).trans hp
  have h61 : (w.setCell ⟨b, 4, none⟩ (.int .i32 1)).cell? ⟨b, 6, none⟩ = some nv := (World.cell?_setCell_other _ ⟨b, 4, none⟩ ⟨b, 6, none⟩ _ (by simp)).trans h6
  have hnot : ∀ (x : Bool) (w : World), (Op.unary .not (.bool x)).run Tryd.prog w = .ok (.bool (!x)) w := fun _ _ => rfl
  have hm : ∀ w : World, (Instr.makeSlice 22 (.int .i64 4096) (.int .i64 4096)).run Tryd.prog w = .ok (.slice (some ⟨w.heap.size, 0, none⟩) 4096 4096) (w.alloc newPage) :=
    run_make_row' (P := Tryd.prog) 22 5 (.int .u8 0) 1 Tryd.underlying22 (by kernel_rfl) rfl .i64 .i64 4096 (by omega) (by omega)
  have HLd := hide (bool_load ⟨b, 3, none⟩ 0 (w.setCell ⟨b, 4, none⟩ (.int .i32 1)) ((World.cell?_setCell_other _ ⟨b, 4, none⟩ ⟨b, 3, none⟩ _ (by simp)).trans h3))
  have lp := World.block_lt_of_cell? w pl hp
  have HR := hide hr
  clear hr
  have HPg : Hid (∀ W : World, RowAt W w.heap.size (madeCells #[.int .u8 0] 4096) 5 → HoldsAt W w.heap.size 4096 5 (fun _ => .int .u8 0)) := hide (fun W h => HoldsAt.made h)
  have HO : Hid (newPage = .cells (madeCells #[.int .u8 0] 4096) 5) := hide rfl
  generalize newPage = O at *
  go_enter_defers Tryd.func75, Tryd.ntmps75
  go_wp2_with (first | (go_at_call 78; refine (lock_free ⟨b, 4, none⟩ _ (by go_simp) (by go_simp)).mono ?_; rintro e w' ⟨rfl, rfl⟩) | (go_at_call 74; refine HLd.out.mono ?_; rintro e w' ⟨rfl, rfl⟩))
  go_wp2
  go_region
  all_goals (go_end0; go_wp2)
  have hV : RowAt (((w.setCell ⟨b, 4, none⟩ (.int .i32 1)).setCell ⟨b, 6, none⟩ (.slice (some ⟨w.heap.size, 0, none⟩) 4096 4096)).alloc O).drew b #[.slice (some ⟨P, 0, none⟩) n n, .slice (some ⟨D, 0, none⟩) n dc, .int .i64 wr, .int .u32 0, .int .i32 1, .int .u32 0, .slice (some ⟨w.heap.size, 0, none⟩) 4096 4096] 93 :=
    (((HR.out.put 4 _).put 6 _).al _).dr
  have hVz : (((w.setCell ⟨b, 4, none⟩ (.int .i32 1)).setCell ⟨b, 6, none⟩ (.slice (some ⟨w.heap.size, 0, none⟩) 4096 4096)).alloc O).drew.heap.size = w.heap.size + 1 := by simp
  have hVo : ∀ g, g ≠ b → g < w.heap.size → (((w.setCell ⟨b, 4, none⟩ (.int .i32 1)).setCell ⟨b, 6, none⟩ (.slice (some ⟨w.heap.size, 0, none⟩) 4096 4096)).alloc O).drew.heap[g]? = w.heap[g]? := fun g hg hl =>
    (Below.heap_alloc _ _ _ (by simpa using hl)).trans ((Below.heap_setCell _ _ _ _ hg).trans (Below.heap_setCell _ _ _ _ hg))
  have hVb : ∀ B w0, B ≤ b → Below B w0 w → Below B w0 (((w.setCell ⟨b, 4, none⟩ (.int .i32 1)).setCell ⟨b, 6, none⟩ (.slice (some ⟨w.heap.size, 0, none⟩) 4096 4096)).alloc O).drew := fun B w0 hB h =>
    (((h.setCell hB _).setCell hB _).alloc (by simp; omega) _).drew
  have hVp : RowAt (((w.setCell ⟨b, 4, none⟩ (.int .i32 1)).setCell ⟨b, 6, none⟩ (.slice (some ⟨w.heap.size, 0, none⟩) 4096 4096)).alloc O).drew w.heap.size (madeCells #[.int .u8 0] 4096) 5 := by
    rw [HO.out]
    exact (RowAt.new _ _ _ _ (by simp)).dr
  generalize (((w.setCell ⟨b, 4, none⟩ (.int .i32 1)).setCell ⟨b, 6, none⟩ (.slice (some ⟨w.heap.size, 0, none⟩) 4096 4096)).alloc O).drew = V at *
  refine leaves_cons (f := 80) (args := #[.pointer (some ⟨b, 3, none⟩), .bool true]) (by simp) (by simp [go_sem]) ?_
  refine (store_deferred ⟨b, 3, none⟩ (.int .u32 0) .returning _ (hV.cell 3) (hV.thaw 3)).mono ?_
  rintro e u' w'' ⟨rfl, rfl, rfl⟩
  have hV2 : RowAt (V.drew.setCell ⟨b, 3, none⟩ (.int .u32 1)) b #[.slice (some ⟨P, 0, none⟩) n n, .slice (some ⟨D, 0, none⟩) n dc, .int .i64 wr, .int .u32 1, .int .i32 1, .int .u32 0, .slice (some ⟨w.heap.size, 0, none⟩) 4096 4096] 93 := hV.dr.put 3 _
  refine leaves_cons (f := 79) (args := #[.pointer (some ⟨b, 4, none⟩)]) (by simp [settle]) (by simp [go_sem]) ?_
  refine (unlock_deferred ⟨b, 4, none⟩ _ _ (hV2.cell 4) (hV2.thaw 4)).mono ?_
  rintro e u' w'' ⟨rfl, rfl, rfl⟩
  have key : RowAt ((V.drew.setCell ⟨b, 3, none⟩ (.int .u32 1)).setCell ⟨b, 4, none⟩ (.int .i32 0)) b (ramV P D n dc wr (.slice (some ⟨w.heap.size, 0, none⟩) 4096 4096) 1) 93 := hV2.put 4 _
  have made : Made b w ((V.drew.setCell ⟨b, 3, none⟩ (.int .u32 1)).setCell ⟨b, 4, none⟩ (.int .i32 0)) :=
    ⟨by simpa using hVz, fun g hg hl => (Below.heap_setCell _ _ _ _ hg).trans ((Below.heap_setCell _ _ _ _ hg).trans (hVo g hg hl)), fun B w0 hB h => ((hVb B w0 hB h).drew.setCell hB _).setCell hB _,
      HPg.out _ ((hVp.dr.far (by omega) _ _).far (by omega) _ _)⟩
  clear hV hVz hVo hVb hVp hV2
  simp [Leaves, settle, results, Tryd.results75]
  exact ⟨key, made⟩
end Go.Proofs.YtbggkoahofnnjaaDoor
namespace Go.Proofs.YtbggkoahofnnjaaDoor
open Go.RowKit
set_option linter.unusedVariables false
attribute [local go_sem ↓] Go.wp_at_zero Go.wp_at_succ

set_option maxRecDepth 100000 in
set_option maxHeartbeats 1000000 in
theorem do_first (b P D n dc : Nat) (wr : Int) (nv : Value) (pl : Addr) (hpb : ¬ b = pl.block) (w : World) (hr : RowAt w b (ramV P D n dc wr nv 0) 93) (hp : w.cell? pl = some (.pointer (some ⟨b, 0, none⟩))) :
    Calls Tryd.prog 71 #[.pointer (some ⟨b, 3, none⟩), .func (.func 72) #[] #[.pointer (some pl)]] w fun e w' => e = .returned (.tuple #[]) ∧
      RowAt w' b (ramV P D n dc wr (.slice (some ⟨w.heap.size, 0, none⟩) 4096 4096) 1) 93 ∧ Made b w w' := by
  have HS := hide (slow_first b P D n dc wr nv pl hpb w hr hp)
  have HLd := hide (bool_load ⟨b, 3, none⟩ 0 w (hr.cell 3))
  have c3 : w.cell? ⟨b, 3, none⟩ = some (.int .u32 0) := hr.cell 3
  have hnot : ∀ (x : Bool) (w : World), (Op.unary .not (.bool x)).run Tryd.prog w = .ok (.bool (!x)) w := fun _ _ => rfl
  clear hr hp
  go_enter Tryd.func71, Tryd.ntmps71
  go_wp2_with (first | (go_at_call 74; refine HLd.out.mono ?_; rintro e w' ⟨rfl, rfl⟩) | (go_at_call 75; refine HS.out.mono ?_; rintro e w' ⟨rfl, hr2, hm2⟩))
  go_end0
  exact ⟨rfl, hr2, hm2⟩
set_option maxRecDepth 100000 in
set_option maxHeartbeats 1000000 in
theorem do_again (b P D n dc : Nat) (wr : Int) (nv : Value) (f : Value) (w : World) (hr : RowAt w b (ramV P D n dc wr nv 1) 93) :
    Calls Tryd.prog 71 #[.pointer (some ⟨b, 3, none⟩), f] w fun e w' => e = .returned (.tuple #[]) ∧ w' = w := by
  have HLd := hide (bool_load ⟨b, 3, none⟩ 1 w (hr.cell 3))
  have c3 : w.cell? ⟨b, 3, none⟩ = some (.int .u32 1) := hr.cell 3
  have hnot : ∀ (x : Bool) (w : World), (Op.unary .not (.bool x)).run Tryd.prog w = .ok (.bool (!x)) w := fun _ _ => rfl
  clear hr
  go_enter Tryd.func71, Tryd.ntmps71
  go_wp2_with (first | (go_at_call 74; refine HLd.out.mono ?_; rintro e w' ⟨rfl, rfl⟩))
  go_end0
  exact ⟨rfl, rfl⟩
set_option maxHeartbeats 1000000 in
theorem look_again (b P D n dc p Z : Nat) (wr : Int) (hp : p < n) (hn : n ≤ 16384) (w : World)
    (hr : RowAt w b (ramV P D n dc wr (.slice (some ⟨Z, 0, none⟩) 4096 4096) 1) 93) (cp : w.cell? ⟨P, p, none⟩ = some (.slice none 0 0)) :
    Calls Tryd.prog 67 #[.pointer (some ⟨b, 0, none⟩), .int .i64 p] w fun e w' => e = .returned (.slice (some ⟨Z, 0, none⟩) 4096 4096) ∧ Below w.heap.size w w' := by
  have i0 : (0 : Int) ≤ (p : Int) := by omega
  have i9 : (p : Int) < (n : Int) := by omega
  have c0 : w.cell? ⟨b, 0, none⟩ = some (.slice (some ⟨P, 0, none⟩) n n) := hr.cell 0
  have c3 : w.cell? ⟨b, 3, none⟩ = some (.int .u32 1) := hr.cell 3
  have c6 : w.cell? ⟨b, 6, none⟩ = some (.slice (some ⟨Z, 0, none⟩) 4096 4096) := hr.cell 6
  have lb := lt_of_cell c0
  have lP := lt_of_cell cp
  have hq := fun w => Lib.run_eql_slice_nil (P := Tryd.prog) w 22 5 none 0 0 0 0 Tryd.underlying22
  have HD := hide (fun f w h => do_again b P D n dc wr (.slice (some ⟨Z, 0, none⟩) 4096 4096) f w h)
  have HR := hide hr
  clear hr
  go_enter Tryd.func67, Tryd.ntmps67
  go_wp2_with (go_at_call 71; refine (HD.out _ _ (HR.out.al _)).mono ?_; rintro e w' ⟨rfl, rfl⟩)
  go_ret
  exact ⟨rfl, below_one _ _⟩
end Go.Proofs.YtbggkoahofnnjaaDoor
