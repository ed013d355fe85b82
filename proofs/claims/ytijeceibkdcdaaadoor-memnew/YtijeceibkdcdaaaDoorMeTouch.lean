/-
  What mem's touch does: the page is there, and dirty.
-/
import Derived.Test.YtijeceibkdcdaaaDoorMeRam
import Derived.Lib.SliceRun
namespace Go.Proofs.YtijeceibkdcdaaaDoor
open Go.RowKit
set_option linter.unusedVariables false
attribute [local go_sem ↓] Go.wp_at_zero Go.wp_at_succ

set_option maxHeartbeats 1000000 in
theorem touch_there (b P D n p g : Nat) (hp : p < n) (hn : n ≤ 16384) (w : World)
    (c0 : w.cell? ⟨b, 0, none⟩ = some (.slice (some ⟨P, 0, none⟩) n n)) (c1 : w.cell? ⟨b, 1, none⟩ = some (.slice (some ⟨D, 0, none⟩) n n)) (cp : w.cell? ⟨P, p, none⟩ = some (.slice (some ⟨g, 0, none⟩) 4096 4096))
    (v : Value) (cd : w.cell? ⟨D, p, none⟩ = some v) (fd : w.frozen? ⟨D, p, none⟩ = false) (hbD : b ≠ D) (hPD : P ≠ D) :
    Calls Tryd.prog 28 #[.pointer (some ⟨b, 0, none⟩), .int .i64 p] w fun e w' => e = .returned (.slice (some ⟨g, 0, none⟩) 4096 4096) ∧ w' = w.setCell ⟨D, p, none⟩ (.bool true) := by
  have i0 : (0 : Int) ≤ (p : Int) := by omega
  have i9 : (p : Int) < (n : Int) := by omega
  have hq := fun w => Lib.run_eql_slice_nil (P := Tryd.prog) w 28 5 (some ⟨g, 0, none⟩) 4096 4096 0 0 Tryd.underlying28
  have e0 : (w.setCell ⟨D, p, none⟩ (.bool true)).cell? ⟨b, 0, none⟩ = some (.slice (some ⟨P, 0, none⟩) n n) := by
    rw [World.cell?_setCell_other _ _ _ _ (fun e => hbD (by cases e; rfl))]; exact c0
  have e1 : (w.setCell ⟨D, p, none⟩ (.bool true)).cell? ⟨P, p, none⟩ = some (.slice (some ⟨g, 0, none⟩) 4096 4096) := by
    rw [World.cell?_setCell_other _ _ _ _ (fun e => hPD (by cases e; rfl))]; exact cp
  go_enter Tryd.func28, Tryd.ntmps28
  go_wp2
  go_ret
  exact ⟨rfl, rfl⟩
/-- A page of noughts, made. -/
def newPage : Obj := .cells (madeCells #[.int .u8 0] 4096) 5

set_option maxHeartbeats 2000000 in
theorem touch_made (b P D n p : Nat) (hp : p < n) (hn : n ≤ 16384) (w : World)
    (c0 : w.cell? ⟨b, 0, none⟩ = some (.slice (some ⟨P, 0, none⟩) n n)) (c1 : w.cell? ⟨b, 1, none⟩ = some (.slice (some ⟨D, 0, none⟩) n n)) (cp : w.cell? ⟨P, p, none⟩ = some (.slice none 0 0)) (fp : w.frozen? ⟨P, p, none⟩ = false)
    (v : Value) (cd : w.cell? ⟨D, p, none⟩ = some v) (fd : w.frozen? ⟨D, p, none⟩ = false) (hbP : b ≠ P) (hbD : b ≠ D) (hPD : P ≠ D) :
    Calls Tryd.prog 28 #[.pointer (some ⟨b, 0, none⟩), .int .i64 p] w fun e w' => e = .returned (.slice (some ⟨w.heap.size, 0, none⟩) 4096 4096) ∧
      w' = (((w.setCell ⟨P, p, none⟩ (.slice (some ⟨w.heap.size, 0, none⟩) 4096 4096)).setCell ⟨D, p, none⟩ (.bool true)).alloc newPage).drew := by
  have i0 : (0 : Int) ≤ (p : Int) := by omega
  have i9 : (p : Int) < (n : Int) := by omega
  have lb := lt_of_cell c0
  have lP := lt_of_cell cp
  have lD := lt_of_cell cd
  have hq := fun w => Lib.run_eql_slice_nil (P := Tryd.prog) w 28 5 none 0 0 0 0 Tryd.underlying28
  have hm : ∀ w : World, (Instr.makeSlice 28 (.int .i64 4096) (.int .i64 4096)).run Tryd.prog w = .ok (.slice (some ⟨w.heap.size, 0, none⟩) 4096 4096) (w.alloc newPage) :=
    run_make_row' (P := Tryd.prog) 28 5 (.int .u8 0) 1 Tryd.underlying28 (by kernel_rfl) rfl .i64 .i64 4096 (by omega) (by omega)
  generalize newPage = O at *
  have x0 : (w.setCell ⟨P, p, none⟩ (.slice (some ⟨w.heap.size, 0, none⟩) 4096 4096)).cell? ⟨b, 0, none⟩ = some (.slice (some ⟨P, 0, none⟩) n n) := by
    rw [World.cell?_setCell_other _ _ _ _ (fun e => hbP (by cases e; rfl))]; exact c0
  have x1 : (w.setCell ⟨P, p, none⟩ (.slice (some ⟨w.heap.size, 0, none⟩) 4096 4096)).cell? ⟨b, 1, none⟩ = some (.slice (some ⟨D, 0, none⟩) n n) := by
    rw [World.cell?_setCell_other _ _ _ _ (fun e => hbP (by cases e; rfl))]; exact c1
  have xd : (w.setCell ⟨P, p, none⟩ (.slice (some ⟨w.heap.size, 0, none⟩) 4096 4096)).cell? ⟨D, p, none⟩ = some v := by
    rw [World.cell?_setCell_other _ _ _ _ (fun e => hPD (by cases e; rfl))]; exact cd
  have xf : (w.setCell ⟨P, p, none⟩ (.slice (some ⟨w.heap.size, 0, none⟩) 4096 4096)).frozen? ⟨D, p, none⟩ = false := by
    rw [World.frozen?_setCell]; exact fd
  have y0 : ((w.setCell ⟨P, p, none⟩ (.slice (some ⟨w.heap.size, 0, none⟩) 4096 4096)).setCell ⟨D, p, none⟩ (.bool true)).cell? ⟨b, 0, none⟩ = some (.slice (some ⟨P, 0, none⟩) n n) := by
    rw [World.cell?_setCell_other _ _ _ _ (fun e => hbD (by cases e; rfl))]; exact x0
  go_enter Tryd.func28, Tryd.ntmps28
  go_wp2
  go_region
  go_wp2
  go_ret
  exact ⟨rfl, rfl⟩

theorem RamAt.mark {w : World} {B b P D : Nat} {m : Mem} (h : RamAt w B b P D m) {p : Nat} (hp : p < m.n) : RamAt (w.setCell ⟨D, p, none⟩ (.bool true)) B b P D { m with dirty := upd m.dirty p true } := by
  obtain ⟨n, o, hr⟩ := h.head
  obtain ⟨a1, a2, a3, a4⟩ := h.apart
  exact { head := ⟨n, o, hr.far a2 p _⟩, pages := h.pages.far a3 p _,
          marks := (h.marks.put hp (.bool true)).congr (fun j _ => by
            by_cases hj : j = p
            · subst hj; rw [upd_same]; show _ = Value.bool (upd m.dirty j true j); rw [upd_same]
            · rw [upd_other _ _ hj]; show _ = Value.bool (upd m.dirty p true j); rw [upd_other _ _ hj]),
          bytes := fun q g hq hg => (h.bytes q g hq hg).far (a4 q g hq hg).2.2 p _, noughts := h.noughts, low := h.low, apart := h.apart, alone := h.alone, few := h.few }

theorem RamAt.page {w : World} {B b P D : Nat} {m : Mem} (h : RamAt w B b P D m) (hB : B ≤ w.heap.size) {p : Nat} (hp : p < m.n) (hn : m.blk p = none) :
    RamAt ((w.setCell ⟨P, p, none⟩ (.slice (some ⟨w.heap.size, 0, none⟩) 4096 4096)).alloc newPage) B b P D { m with blk := upd m.blk p (some w.heap.size) } := by
  obtain ⟨n, o, hr⟩ := h.head
  obtain ⟨a1, a2, a3, a4⟩ := h.apart
  obtain ⟨l1, l2, l3, l4⟩ := h.low
  have hsz : (w.setCell ⟨P, p, none⟩ (.slice (some ⟨w.heap.size, 0, none⟩) 4096 4096)).heap.size = w.heap.size := by simp [World.setCell]
  have old : ∀ q g, q < m.n → m.blk q = some g → g < w.heap.size := fun q g hq hg => (h.bytes q g hq hg).lt
  have blk' : ∀ q g, upd m.blk p (some w.heap.size) q = some g → (q = p ∧ g = w.heap.size) ∨ (q ≠ p ∧ m.blk q = some g) := fun q g hg => by
    by_cases hq : q = p
    · subst hq; rw [upd_same] at hg; exact .inl ⟨rfl, (Option.some.inj hg).symm⟩
    · rw [upd_other _ _ hq] at hg; exact .inr ⟨hq, hg⟩
  have lb := hr.lt
  have lP := h.pages.lt
  have lD := h.marks.lt
  exact { head := ⟨n, o, (hr.far a1 p _).al _⟩,
          pages := ((h.pages.put hp (.slice (some ⟨w.heap.size, 0, none⟩) 4096 4096)).congr (fun j _ => by
            by_cases hj : j = p
            · subst hj; rw [upd_same]; show _ = pageV (upd m.blk j (some w.heap.size) j); rw [upd_same]; rfl
            · rw [upd_other _ _ hj]; show _ = pageV (upd m.blk p (some w.heap.size) j); rw [upd_other _ _ hj])).al _,
          marks := (h.marks.far (fun e => a3 e.symm) p _).al _,
          bytes := fun q g hq hg => by
            rcases blk' q g hg with ⟨rfl, rfl⟩ | ⟨hqp, hg'⟩
            · have hz : ∀ x, m.dat q x = 0 := h.noughts q hp hn
              refine (HoldsAt.made (RowAt.new _ _ _ _ hsz)).congr (fun j _ => ?_)
              show _ = Value.int .u8 ((m.dat q j : Nat) : Int)
              rw [hz j]; rfl
            · exact ((h.bytes q g hq hg').far (a4 q g hq hg').2.1 p _).al _,
          noughts := fun q hq hg => by
            by_cases hqp : q = p
            · subst hqp; exact h.noughts q hq hn
            · exact h.noughts q hq (by
                have : upd m.blk p (some w.heap.size) q = none := hg
                rwa [upd_other _ _ hqp] at this),
          low := ⟨l1, l2, l3, fun q g hq hg => by
            rcases blk' q g hg with ⟨rfl, rfl⟩ | ⟨_, hg'⟩
            · exact hB
            · exact l4 q g hq hg'⟩,
          apart := ⟨a1, a2, a3, fun q g hq hg => by
            rcases blk' q g hg with ⟨rfl, rfl⟩ | ⟨_, hg'⟩
            · exact ⟨by omega, by omega, by omega⟩
            · exact a4 q g hq hg'⟩,
          alone := fun q r g hq hr' hne hg hg2 => by
            rcases blk' q g hg with ⟨rfl, rfl⟩ | ⟨hqp, hg'⟩
            · rcases blk' r _ hg2 with ⟨rfl, _⟩ | ⟨_, hr2⟩
              · exact hne rfl
              · have := old r _ hr' hr2; omega
            · rcases blk' r g hg2 with ⟨rfl, rfl⟩ | ⟨_, hr2⟩
              · have := old q _ hq hg'; omega
              · exact h.alone q r g hq hr' hne hg' hr2,
          few := h.few }
end Go.Proofs.YtijeceibkdcdaaaDoor
