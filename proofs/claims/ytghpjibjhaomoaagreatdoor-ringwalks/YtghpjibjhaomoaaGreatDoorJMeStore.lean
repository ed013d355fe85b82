/-
  What mem's Store does where the place may be.
-/
import Derived.Test.YtghpjibjhaomoaaGreatDoorJMeLoad
namespace Go.Proofs.YtghpjibjhaomoaaGreatDoor
open Go.RowKit
set_option linter.unusedVariables false
attribute [local go_sem ↓] Go.wp_at_zero Go.wp_at_succ

/-- The bytes of a number, its lowest first. -/
def numB (v k : Nat) : List Nat := (List.range k).map fun j => v / 256 ^ j % 256

theorem byteN (x : Nat) : (UInt8.ofNat (x % 256)).toNat = x % 256 := by simp
theorem with_bytes (v k : Nat) (hk : k = 1 ∨ k = 2 ∨ k = 4) : cellsB (withTo (List.replicate k 0) 0 v k) = byteV (numB v k) := by
  rcases hk with rfl | rfl | rfl <;> simp [withTo, cellsB, byteV, numB, List.replicate, List.range, List.range.loop]
theorem Wrote.mono {m k : Mem} {S S' a : Nat} {l : List Nat} {d : Nat} (h : Wrote m k S' a l d) (hS : S ≤ S') : Wrote m k S a l d :=
  { n := h.n, wr := h.wr, z := h.z, dat := h.dat, dirty := h.dirty, old := fun p g e => (h.old p g e).imp id (fun e => Nat.le_trans hS e), keep := h.keep, there := h.there }
theorem Kept.of {B : Nat} {w w' : World} {own : Nat → Prop} (hb : Below w.heap.size w w') (hB : B ≤ w.heap.size) : Kept B w w' own := ⟨hb.mono hB, hb.size, fun x hx _ => hb.block x hx⟩
theorem RamAt.owned {w : World} {B b P D : Nat} {m : Mem} (h : RamAt w B b P D m) {x : Nat} (ho : m.owns b P D x) : x < w.heap.size := by
  have hr := h.head
  rcases ho with rfl | rfl | rfl | ⟨p, h1, h2⟩
  · exact hr.lt
  · exact h.pages.lt
  · exact h.marks.lt
  · exact (h.bytes p x h1 h2).lt

set_option maxHeartbeats 600000 in
theorem store_ok {w : World} {B b P D : Nat} {m : Mem} (h : RamAt w B b P D m) (hB : B ≤ w.heap.size) (a k : Nat) (ha : a < 4294967296) (hk : k = 1 ∨ k = 2 ∨ k = 4) (hal : a % k = 0) (hin : a + k ≤ m.n * 4096) (v : Nat) (hv : v < 4294967296) (hwr : m.wr ≤ 1000000) :
    Calls Tryz.prog 27 #[.pointer (some ⟨b, 0, none⟩), .int .u32 a, .int .i64 k, .int .u32 v] w fun e w' => e = .returned .nilIface ∧ ∃ q, Wrote m q w.heap.size a (numB v k) k ∧ RamAt w' B b P D { q with wr := q.wr + 1 } ∧ Kept B w w' (m.owns b P D) := by
  have HK := hide (check_wide b P m.n a k hk ha h.few w h.pagesAt)
  rw [numE_ok hk hal hin] at HK
  have hfew := h.few
  have hk4 : k ≤ 4 := by omega
  have hk1 : 1 ≤ k := by omega
  have hmk := run_make_row' (P := Tryz.prog) 28 5 (.int .u8 0) 1 Tryz.underlying28 (by kernel_rfl) rfl .i64 .i64 k (by omega) (by omega)
  have HW : Hid (Calls Tryz.prog 53 #[.slice (some ⟨w.heap.size, 0, none⟩) k k, .int .i64 0, .int .i64 k, .int .u32 v] (w.alloc (.cells (madeCells #[.int .u8 0] k) 5)) fun e w' => ∃ g, e = .returned (.tuple #[.slice (some ⟨g, 0, none⟩) k k, .nilIface]) ∧ (∀ j u, (byteV (numB v k))[j]? = some u → w'.cell? ⟨g, 0 + j, none⟩ = some u) ∧ g < w'.heap.size ∧ w.heap.size ≤ g ∧ Below w.heap.size w w') := by
    refine hide ?_
    have hw := with_ok w.heap.size 0 k (List.replicate k 0) 0 k hk (Nat.zero_mod _) (by simp) (by simp; omega) v hv (w.alloc (.cells (madeCells #[.int .u8 0] k) 5)) (fun j u hj => by
      rw [Nat.zero_add, RowAt.cell (RowAt.new w _ _ _ rfl) j]
      have hjk : j < k := by
        have := (List.getElem?_eq_some_iff.1 hj).1
        rw [cellsB_length] at this; simpa using this
      rw [cellsB, List.getElem?_map, List.getElem?_replicate, if_pos hjk] at hj
      rw [← hj]
      simp [madeCells, hjk, Nat.mod_one]) (by simp)
    rw [List.length_replicate] at hw
    refine hw.mono ?_
    rintro e w' ⟨g, rfl, hrow, hbl⟩
    obtain ⟨g', c', hs, hg1, hg2⟩ := own_shape hrow (by omega)
    obtain rfl : g = g' := by cases hs; rfl
    rw [with_bytes v k hk] at hrow
    refine ⟨g, rfl, fun j u hj => ?_, hg2, ?_, ?_⟩
    · have hjk : j < k := by
        have := (List.getElem?_eq_some_iff.1 hj).1
        simpa [byteV, numB] using this
      rw [Nat.zero_add, ← hj]
      exact hrow.cellAt j (by omega)
    · have : w.heap.size ≤ (w.alloc (.cells (madeCells #[.int .u8 0] k) 5)).heap.size := by simp
      omega
    · exact ((Below.refl _ w).alloc (Nat.le_refl _) _).trans (hbl.mono (by simp))
  have HWr : Hid (∀ w' g, Below w.heap.size w w' → w.heap.size ≤ g → g < w'.heap.size → (∀ j u, (byteV (numB v k))[j]? = some u → w'.cell? ⟨g, 0 + j, none⟩ = some u) → Calls Tryz.prog 51 #[.pointer (some ⟨b, 0, none⟩), .int .u32 a, .slice (some ⟨g, 0, none⟩) k k] w' fun e w'' => e = .returned .nilIface ∧ ∃ q, Wrote m q w.heap.size a (numB v k) k ∧ RamAt w'' B b P D { q with wr := q.wr + 1 } ∧ Kept B w w'' (m.owns b P D)) := by
    refine hide (fun w' g hb hg hg2 hs => ?_)
    refine (write_some (h.bl hb) (Nat.le_trans hB hb.size) a ha (numB v k) k (by simp [numB]) (by omega) hin g 0 k (Nat.le_refl _) hs hg2 (fun ho => absurd (h.owned ho) (Nat.not_lt.2 hg)) hwr).mono ?_
    rintro e w'' ⟨rfl, q, h1, h2, h3⟩
    exact ⟨rfl, q, h1.mono hb.size, h2, (Kept.of hb hB).trans h3⟩
  clear h hal hin hwr
  go_enter Tryz.func27, Tryz.ntmps27
  go_wp2_with (first | (go_at_call 52; refine HK.out.mono ?_; rintro e w1 ⟨rfl, rfl⟩) | (go_at_call 53; refine HW.out.mono ?_; rintro e w2 ⟨g, rfl, hx1, hx2, hx3, hx4⟩; have H1 := hide hx1; have H2 := hide hx2; have H3 := hide hx3; have H4 := hide hx4; clear hx1 hx2 hx3 hx4) | (go_at_call 51; refine (HWr.out _ g H4.out H3.out H2.out H1.out).mono ?_; rintro e w3 ⟨rfl, hx5⟩; have H5 := hide hx5; clear hx5))
  go_ret
  exact ⟨rfl, H5.out⟩
end Go.Proofs.YtghpjibjhaomoaaGreatDoor
