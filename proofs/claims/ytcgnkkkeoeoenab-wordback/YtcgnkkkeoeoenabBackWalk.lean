/-
  The law WordBack, walked.
-/
import Derived.Test.YtcgnkkkeoeoenabBackMath
import Derived.Deep.QuietTactic
import Derived.BigQuiet
import Derived.Maps.AppendAt
namespace Go.Proofs.Ytcgnkkkeoeoenab
open Go.RowKit
set_option linter.unusedVariables false

/-- The eight bytes of the law. -/
def octs (v : Nat) (k : Nat) : List UInt8 := (List.range k).map fun i => UInt8.ofNat (v / 2 ^ i % 256)
theorem octs_length (v k : Nat) : (octs v k).length = k := by simp [octs]
theorem octs_snoc (v k : Nat) : cellsB (octs v (k + 1)) = cellsB (octs v k) ++ [.int .u8 ((v : Int) / 2 ^ k % 256)] := by
  simp [octs, cellsB, List.range_succ]

theorem own_ge {w : World} {base : Nat} {e : TypeId} {size n : Nat} {v : Value} {xs : List Value} (h : w.ownsRow base e size v n xs) : ∀ k, v.ownBlock = some k → base ≤ k := by
  intro k hk
  rcases h.2 with ⟨rfl, _⟩ | ⟨g, cap, cur, rfl, hg, _⟩
  · simp [Value.ownBlock] at hk
  · simp [Value.ownBlock] at hk; omega

theorem own_src {w : World} {base : Nat} {e : TypeId} {g N c : Nat} {xs : List Value} (h : w.ownsRow base e 1 (.slice (some ⟨g, 0, none⟩) N c) N xs) : ∀ j u, xs[j]? = some u → w.cell? ⟨g, 0 + j, none⟩ = some u := by
  intro j u hj
  have hlt : j < xs.length := (List.getElem?_eq_some_iff.1 hj).1
  rw [h.1] at hlt
  rw [Nat.zero_add, h.cellAt j hlt]
  exact hj
theorem own_lt {w : World} {base : Nat} {e : TypeId} {g N c : Nat} {xs : List Value} (h : w.ownsRow base e 1 (.slice (some ⟨g, 0, none⟩) N c) N xs) : g < w.heap.size := by
  rcases h.2 with ⟨h', _⟩ | ⟨g', cap', cur, h', _, hg, _⟩
  · simp at h'
  · simp only [Value.slice.injEq, Option.some.injEq, Addr.mk.injEq, and_true, true_and] at h'
    obtain ⟨rfl, rfl⟩ := h'
    exact (Array.getElem?_eq_some_iff.1 hg).1

theorem box_at4 (w : World) (a b c d : Value) (t : TypeId) : (w.alloc (.cells #[a, b, c, d] t)).cell? ⟨w.heap.size, 2, none⟩ = some c ∧ (w.alloc (.cells #[a, b, c, d] t)).cell? ⟨w.heap.size, 3, none⟩ = some d := by
  rw [cell_of_row _ _ _ _ _ (0, 0) (heap_alloc_new w _), cell_of_row _ _ _ _ _ (0, 0) (heap_alloc_new w _)]
  exact ⟨rfl, rfl⟩

theorem own_bytes {w : World} {base : Nat} {e : TypeId} {g N c : Nat} {l : List UInt8} (h : w.ownsRow base e 1 (.slice (some ⟨g, 0, none⟩) N c) N (cellsB l)) (hl : l.length = N) : ∀ j, j < N → w.cell? ⟨g, 0 + j, none⟩ = some (.int .u8 ((l[j]?.getD 0).toNat : Int)) := by
  intro j hj
  rw [Nat.zero_add, h.cellAt j (by omega)]
  simp [cellsB, hl, hj]

/-- With and Get behind one another, at a place that may be. -/
theorem pair_walk (g c : Nat) (v x at_ n f : Nat) (hx : x < 4294967296) (hn : n = 1 ∨ n = 2 ∨ n = 4) (hal : at_ % n = 0) (hfit : at_ + n ≤ 8) (hf : f = fieldW x (0 : Nat) (8 * n : Nat)) (base : Nat) (w : World)
    (hown : w.ownsRow base 5 1 (.slice (some ⟨g, 0, none⟩) 8 c) 8 (cellsB (octs v 8))) :
    Calls Try.prog 6 #[.slice (some ⟨g, 0, none⟩) 8 c, .int .i64 at_, .int .i64 n, .int .u32 x] w fun e w' => ∃ g2, e = .returned (.tuple #[.slice (some ⟨g2, 0, none⟩) 8 8, .nilIface]) ∧ Below w.heap.size w w' ∧
      Calls Try.prog 7 #[.slice (some ⟨g2, 0, none⟩) 8 8, .int .i64 at_, .int .i64 n] w' fun e w2 => e = .returned (.tuple #[.int .u32 (f : Nat), .nilIface]) ∧ Below w'.heap.size w' w2 := by
  have hol := octs_length v 8
  have h := with_ok g 0 c (octs v 8) at_ n hn hal (by omega) (by omega) x hx w (own_src hown) (own_lt hown)
  rw [hol] at h
  refine h.mono ?_
  rintro e w' ⟨g2, rfl, hown2, hb⟩
  refine ⟨g2, rfl, hb, ?_⟩
  have hg := get_any g2 0 8 8 (fun j => (withTo (octs v 8) at_ x n)[j]?.getD 0) at_ n hn hal hfit (Nat.le_refl _) (by omega) w' (own_lt hown2) (own_bytes hown2 (by rw [withTo_length, hol]))
  rw [back3 (octs v 8) at_ n x hx hn (by omega), ← hf] at hg
  exact hg

end Go.Proofs.Ytcgnkkkeoeoenab
