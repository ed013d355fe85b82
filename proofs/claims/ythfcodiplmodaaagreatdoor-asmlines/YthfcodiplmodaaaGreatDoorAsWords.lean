/-
  AsmLines, walked.
-/
import Derived.Test.YthfcodiplmodaaaGreatDoorAsLabW
import Derived.Deep.DrawnRows
import Derived.Deep.AppendSrc
import Derived.Maps.AppendAt
namespace Go.Proofs.YthfcodiplmodaaaGreatDoor
open Go.Lib Go.RowKit
set_option linter.unusedVariables false

def noteL : Nat → Str
  | 0 => []
  | 1 => [32, 35, 32, 97, 32, 110, 111, 116, 101]
  | 2 => [10, 10]
  | _ => [32, 32]
theorem line_note {t : Str} (h : Tidy t) (r : Nat) (hr : r < 4) (x : Str) : showsL (t ++ (noteL r ++ 10 :: x)) = t :: showsL x := by
  obtain rfl | rfl | rfl | rfl : r = 0 ∨ r = 1 ∨ r = 2 ∨ r = 3 := by omega
  · exact shows_tidy h x
  · have e : t ++ (noteL 1 ++ 10 :: x) = (t ++ List.replicate 1 32 ++ 35 :: [32, 97, 32, 110, 111, 116, 101]) ++ 10 :: x := by simp [noteL]
    have hs := shown_note h 1 [32, 97, 32, 110, 111, 116, 101]
    rw [e, shows_line _ x (fun y hy => by
      simp only [List.mem_append, List.mem_cons, List.mem_replicate, List.not_mem_nil, or_false] at hy
      rcases hy with (hy | hy) | hy
      · exact (h.plain y hy).2
      · rw [hy.2]; decide
      · rcases hy with rfl | rfl | rfl | rfl | rfl | rfl | rfl | rfl <;> decide) (by rw [hs]; exact h.ne), hs]
  · have e : t ++ (noteL 2 ++ 10 :: x) = t ++ 10 :: ([] ++ 10 :: ([] ++ 10 :: x)) := by simp [noteL]
    rw [e, shows_tidy h, shows_void [] _ (by simp) shown_nil, shows_void [] _ (by simp) shown_nil]
  · have e : t ++ (noteL 3 ++ 10 :: x) = (t ++ List.replicate 2 32) ++ 10 :: x := by simp [noteL, List.replicate]
    have hs := shown_blanks h 2
    rw [e, shows_line _ x (fun y hy => by
      rcases List.mem_append.1 hy with hy | hy
      · exact (h.plain y hy).2
      · rw [(List.mem_replicate.1 hy).2]; decide) (by rw [hs]; exact h.ne), hs]
theorem note_len (r : Nat) : (noteL r).length ≤ 9 := by
  unfold noteL
  split <;> simp

theorem cells_keep {w w' : World} (hb : Below w.heap.size w w') {g j : Nat} {v : Value} (h : w.cell? ⟨g, j, none⟩ = some v) : w'.cell? ⟨g, j, none⟩ = some v :=
  (hb.cell (p := ⟨g, j, none⟩) (block_lt_of_cell h)).trans h

attribute [local go_sem ↓] Go.wp_at_zero Go.wp_at_succ
set_option maxHeartbeats 600000 in
theorem words_same (g1 g2 N c1 c2 : Nat) (hN : N ≤ 100000) (h1 : N ≤ c1) (h2 : N ≤ c2) (f : Nat → Nat) (w : World) (k1 : ∀ j, j < N → w.cell? ⟨g1, j, none⟩ = some (.int .u32 (f j : Nat))) (k2 : ∀ j, j < N → w.cell? ⟨g2, j, none⟩ = some (.int .u32 (f j : Nat))) :
    Calls Tryz.prog 17 #[.slice (some ⟨g1, 0, none⟩) N c1, .slice (some ⟨g2, 0, none⟩) N c2] w fun e w' => e = .returned (.bool true) ∧ Below w.heap.size w w' := by
  have K1 := hide k1
  have K2 := hide k2
  have hz : ((N : Int) != (N : Int)) = false := by simp
  clear k1 k2
  go_enter Tryz.func17, Tryz.ntmps17
  go_wp2
  go_loopw [5] (fun kv wr => Below w.heap.size w wr ∧ ∃ k : Nat, k ≤ N ∧ kv = .int .i64 (k : Nat)) (fun kv _ => N - (intOf kv).toNat)
  case atStart => exact ⟨Below.refl _ _, 0, Nat.zero_le _, rfl⟩
  case round =>
    obtain ⟨hB, k, hk, rfl⟩ := hrel
    by_cases hlt : k < N
    · have a1 := cells_keep hB (K1.out k hlt)
      have a2 := cells_keep hB (K2.out k hlt)
      have hz2 : ((f k : Int) != (f k : Int)) = false := by simp
      have HB := hide hB
      clear hB
      go_wp2
      go_region
      all_goals
        go_simp
        go_wp2
        go_roundw
        case rel => exact ⟨HB.out.drew, k + 1, by omega, by go_num⟩
        case measure => simp only [intOf]; omega
    · obtain rfl : k = N := by omega
      go_wp2
      go_ret
      exact ⟨rfl, hB⟩
theorem words_none (a1 a2 : Option Addr) (c1 c2 : Nat) (w : World) :
    Calls Tryz.prog 17 #[.slice a1 0 c1, .slice a2 0 c2] w fun e w' => e = .returned (.bool true) ∧ Below w.heap.size w w' := by
  go_enter Tryz.func17, Tryz.ntmps17
  go_wp2
  go_loopw [5] (fun kv wr => Below w.heap.size w wr ∧ kv = .int .i64 0) (fun kv _ => 0)
  case atStart => exact ⟨Below.refl _ _, rfl⟩
  case round =>
    obtain ⟨hB, rfl⟩ := hrel
    go_wp2
    go_ret
    exact ⟨rfl, hB⟩
/-- Two rows of the same words. -/
theorem words_own {W : World} {B1 B2 : Nat} {v1 v2 : Value} {l : List Nat} (hl : l.length ≤ 100000) (h1 : W.ownsRow B1 48 1 v1 l.length (wordCells l)) (h2 : W.ownsRow B2 48 1 v2 l.length (wordCells l)) :
    Calls Tryz.prog 17 #[v1, v2] W fun e w' => e = .returned (.bool true) ∧ Below W.heap.size W w' := by
  by_cases hn : l = []
  · subst hn
    obtain ⟨_, ⟨rfl, _⟩ | ⟨g, cap, cur, rfl, _⟩⟩ := h1 <;> obtain ⟨_, ⟨rfl, _⟩ | ⟨g', cap', cur', rfl, _⟩⟩ := h2
    all_goals exact words_none _ _ _ _ W
  · obtain ⟨g1, c1, rfl, _, e1, _, k1⟩ := words_cell h1 rfl hn
    obtain ⟨g2, c2, rfl, _, e2, _, k2⟩ := words_cell h2 rfl hn
    exact words_same g1 g2 l.length c1 c2 hl e1 e2 (fun j => l.getD j 0) W (fun j hj => by rw [k1 j _ (List.getElem?_eq_getElem hj), List.getD_eq_getElem?_getD, List.getElem?_eq_getElem hj]; rfl) (fun j hj => by rw [k2 j _ (List.getElem?_eq_getElem hj), List.getD_eq_getElem?_getD, List.getElem?_eq_getElem hj]; rfl)
end Go.Proofs.YthfcodiplmodaaaGreatDoor
