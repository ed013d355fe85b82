/-
  mem's look, whatever page it is.
-/
import Derived.Test.YtbggkoahofnnjaaGreatDoorJR2
open Go.Proofs.Tryz
set_option linter.unusedVariables false
set_option linter.unusedSimpArgs false
namespace Go.Proofs.YtbggkoahofnnjaaGreatDoor
open Go.RowKit
set_option maxHeartbeats 1000000
attribute [local go_sem ↓] Go.wp_at_zero Go.wp_at_succ
theorem look_first (b P D n dc p : Nat) (wr : Int) (nv : Value) (hp : p < n) (hn : n ≤ 16384) (w : World)
    (hr : RowAt w b (ramV P D n dc wr nv 0) 168) (cp : w.cell? ⟨P, p, none⟩ = some (.slice none 0 0)) :
    Calls prog 50 #[.pointer (some ⟨b, 0, none⟩), .int .i64 p] w fun e w' => e = .returned (.slice (some ⟨w.heap.size + 1, 0, none⟩) 4096 4096) ∧ RowAt w' b (ramV P D n dc wr (.slice (some ⟨w.heap.size + 1, 0, none⟩) 4096 4096) 1) 168 ∧ ∃ o, Made b (w.alloc o) w' := by
  have i0 : (0 : Int) ≤ (p : Int) := by omega
  have i9 : (p : Int) < (n : Int) := by omega
  have c0 : w.cell? ⟨b, 0, none⟩ = some (.slice (some ⟨P, 0, none⟩) n n) := hr.cell 0
  have lb := lt_of_cell c0
  have lP := lt_of_cell cp
  have hq := fun w => Lib.run_eql_slice_nil (P := prog) w 60 5 none 0 0 0 0 underlying60
  have HD := hide (fun o h => do_first b P D n dc wr nv ⟨w.heap.size, 0, none⟩ (show ¬ b = w.heap.size by omega) (w.alloc o) (hr.al o) h)
  clear hr
  go_enter func50, ntmps50
  go_wp2_with (go_at_call 91; refine (HD.out _ (by simp)).mono ?_; rintro e w' ⟨rfl, hr2, hm2⟩; have c6 : w'.cell? ⟨b, 6, none⟩ = some (.slice (some ⟨w.heap.size + 1, 0, none⟩) 4096 4096) := (hr2.cell 6).trans (by simp [ramV]); have cb : w'.cell? ⟨w.heap.size, 0, none⟩ = some (.pointer (some ⟨b, 0, none⟩)) := (cell_of_heap (hm2.row w.heap.size (by omega) (by simp)) 0).trans (by simp); have HR2 := hide hr2; have HM2 := hide hm2; clear hr2 hm2)
  go_ret
  exact ⟨rfl, by have := HR2.out; simpa using this, _, HM2.out⟩
structure Looked (m m' : Mem) : Prop where
  eq : ∃ z, m' = { m with z := z }
theorem Looked.refl (m : Mem) : Looked m m := ⟨m.z, rfl⟩
theorem Looked.n {m m' : Mem} (h : Looked m m') : m'.n = m.n := by obtain ⟨z, rfl⟩ := h.eq; rfl
theorem Looked.dat {m m' : Mem} (h : Looked m m') : m'.dat = m.dat := by obtain ⟨z, rfl⟩ := h.eq; rfl
theorem Looked.wr {m m' : Mem} (h : Looked m m') : m'.wr = m.wr := by obtain ⟨z, rfl⟩ := h.eq; rfl
theorem Looked.blk {m m' : Mem} (h : Looked m m') : m'.blk = m.blk := by obtain ⟨z, rfl⟩ := h.eq; rfl
theorem Looked.dirty {m m' : Mem} (h : Looked m m') : m'.dirty = m.dirty := by obtain ⟨z, rfl⟩ := h.eq; rfl
theorem Looked.cap {m m' : Mem} (h : Looked m m') : m'.cap = m.cap := by obtain ⟨z, rfl⟩ := h.eq; rfl
theorem Looked.trans {m m' m2 : Mem} (h : Looked m m') (k : Looked m' m2) : Looked m m2 := by
  obtain ⟨z, rfl⟩ := h.eq
  obtain ⟨y, rfl⟩ := k.eq
  exact ⟨y, rfl⟩
theorem Looked.owns {m m' : Mem} (h : Looked m m') {b P D x : Nat} : m'.owns b P D x ↔ m.owns b P D x := by
  obtain ⟨z, rfl⟩ := h.eq; exact Iff.rfl
theorem HoldsAt.of_heap {w w' : World} {b n : Nat} {t : TypeId} {f : Nat → Value} (h : HoldsAt w b n t f) (e : w'.heap[b]? = w.heap[b]?) : HoldsAt w' b n t f := by
  obtain ⟨cs, hr, hs, hf⟩ := h.row
  exact ⟨cs, e.trans hr, hs, hf⟩
theorem look_any {w : World} {B b P D : Nat} {m : Mem} (h : RamAt w B b P D m) (hB : B ≤ w.heap.size) {p : Nat} (hp : p < m.n) :
    Calls prog 50 #[.pointer (some ⟨b, 0, none⟩), .int .i64 p] w fun e w' => ∃ g m', e = .returned (.slice (some ⟨g, 0, none⟩) 4096 (m.cap p)) ∧ Looked m m' ∧ RamAt w' B b P D m' ∧
      HoldsAt w' g 4096 5 (fun o => .int .u8 (m.dat p o : Nat)) ∧ Kept B w w' (m.owns b P D) ∧ (m'.owns b P D g ∨ m'.z = some g) ∧ (m'.z = m.z ∨ ∃ x, m'.z = some x ∧ w.heap.size ≤ x) := by
  cases hg : m.blk p with
  | some g =>
    refine (look_ram h hp hg).mono ?_
    rintro e w' ⟨rfl, hb⟩
    have hy := (h.bytes p g hp hg).bl hb
    exact ⟨g, m, rfl, Looked.refl m, h.bl hb, hy, ⟨hb.mono hB, hb.size, fun x hx _ => hb.block x hx⟩, .inl (.inr (.inr (.inr ⟨p, hp, hg⟩))), .inl rfl⟩
  | none =>
    have cp := h.pages.cell hp
    rw [hg] at cp
    have hz0 := h.noughts p hp hg
    have hc4 := (h.caps p hp).2.2 hg
    rw [hc4]
    have e0 : (fun o => Value.int .u8 ((m.dat p o : Nat) : Int)) = fun _ => Value.int .u8 0 := by funext o; rw [hz0 o]; rfl
    rw [e0]
    cases hz : m.z with
    | some g =>
      have hh := h.head
      have e1 : m.nv = .slice (some ⟨g, 0, none⟩) 4096 4096 := by unfold Mem.nv; rw [hz]; rfl
      have e2 : m.on = 1 := by unfold Mem.on; rw [hz]
      rw [e1, e2] at hh
      refine (look_again b P D m.n m.dc p g m.wr hp h.few w hh cp).mono ?_
      rintro e w' ⟨rfl, hb⟩
      have hy := (h.zero g hz).1.bl hb
      exact ⟨g, m, rfl, Looked.refl m, h.bl hb, hy, ⟨hb.mono hB, hb.size, fun x hx _ => hb.block x hx⟩, .inr hz, .inl hz⟩
    | none =>
      have hh := h.head
      have e1 : m.nv = .slice none 0 0 := by unfold Mem.nv; rw [hz]; rfl
      have e2 : m.on = 0 := by unfold Mem.on; rw [hz]
      rw [e1, e2] at hh
      refine (look_first b P D m.n m.dc p m.wr _ hp h.few w hh cp).mono ?_
      rintro e w' ⟨rfl, hr2, o, hM⟩
      obtain ⟨a1, a2, a3, a4⟩ := h.apart
      obtain ⟨l1, l2, l3, l4⟩ := h.low
      have lb := hh.lt
      have same : ∀ x, x ≠ b → x < w.heap.size → w'.heap[x]? = w.heap[x]? := fun x hx hl => (hM.row x hx (by simp; omega)).trans (Below.heap_alloc _ _ _ hl)
      have hpg : HoldsAt w' (w.heap.size + 1) 4096 5 (fun _ => .int .u8 0) := by have := hM.page; simpa using this
      have hsz : w'.heap.size = w.heap.size + 1 + 1 := by have := hM.size; simpa using this
      refine ⟨w.heap.size + 1, { m with z := some (w.heap.size + 1) }, rfl, ⟨_, rfl⟩, ?_, hpg, ?_, .inr rfl, .inr ⟨_, rfl, by omega⟩⟩
      · exact { head := hr2, zero := fun g hg' => by
                  cases hg'
                  exact ⟨hpg, by omega, by omega, by have := h.pages.lt; omega, by have := h.marks.lt; omega, fun q hq e => by have := (h.bytes q _ hq e).lt; omega⟩,
                pages := h.pages.of_heap (same P (fun e => a1 e.symm) h.pages.lt), marks := h.marks.of_heap (same D (fun e => a2 e.symm) h.marks.lt),
                bytes := fun q g hq hg' => (h.bytes q g hq hg').of_heap (same g (a4 q g hq hg').1 (h.bytes q g hq hg').lt),
                noughts := h.noughts, low := h.low, apart := h.apart, alone := h.alone, few := h.few, caps := h.caps, room := h.room }
      · exact ⟨hM.bel B w l1 ((Below.refl _ w).alloc hB o), by omega, fun x hx hn => same x (fun e => hn (.inl e)) hx⟩
end Go.Proofs.YtbggkoahofnnjaaGreatDoor
